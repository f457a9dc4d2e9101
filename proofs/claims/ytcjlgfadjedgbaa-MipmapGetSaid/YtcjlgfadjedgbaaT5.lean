/- What the reference's Decode of texel formats returns: the formats with integers; all formats; Quantize. -/
import Derived.Test.YtcjlgfadjedgbaaT4
namespace Go.Proofs.Ytcjlgfadjedgbaa
open Go.RowKit Go.Sort

/-- The widths, in a block of their own. -/
def WGives (W : World) (l : List Int) (x : Ending) (w' : World) : Prop :=
  ∃ b, x = .returned (.slice (some ⟨b, 0, none⟩) l.length l.length) ∧ W.heap.size ≤ b ∧ (∀ (j : Nat) v, l[j]? = some v → w'.cell? ⟨b, j, none⟩ = some (.int .i64 v)) ∧ Below W.heap.size W w'

set_option maxRecDepth 100000 in
theorem rwidths_n (f : Int) (w : World) (hf : f = 1 ∨ f = 2 ∨ f = 3 ∨ f = 4) : Calls Try.prog 68 #[.int .i64 f] w (WGives w (wds f)) := by
  rcases hf with rfl | rfl | rfl | rfl
  · go_enter Try.func68, Try.ntmps68
    go_wp2
    go_ret
    exact ⟨_, rfl, Nat.le_refl _, (by intro j x h; match j, h with | 0, h => (simp [wds] at h; subst h; simp)), box_below _ _ _⟩
  · go_enter Try.func68, Try.ntmps68
    go_wp2
    go_ret
    exact ⟨_, rfl, Nat.le_refl _, (by intro j x h; match j, h with | 0, h | 1, h | 2, h | 3, h => (simp [wds] at h; subst h; simp)), box_below _ _ _⟩
  · go_enter Try.func68, Try.ntmps68
    go_wp2
    go_ret
    exact ⟨_, rfl, Nat.le_refl _, (by intro j x h; match j, h with | 0, h | 1, h | 2, h => (simp [wds] at h; subst h; simp)), box_below _ _ _⟩
  · go_enter Try.func68, Try.ntmps68
    go_wp2
    go_ret
    exact ⟨_, rfl, Nat.le_refl _, (by intro j x h; match j, h with | 0, h | 1, h | 2, h | 3, h => (simp [wds] at h; subst h; simp)), box_below _ _ _⟩

/-- The components so far. -/
def cIf (N : Int) (l : List Int) (k j : Nat) : Int := if j < k then fromv (N / pw (ats l j) % pw (l.getD j 0)) (l.getD j 0) else if j = 3 then 65536 else 0

theorem cIf_with {N : Int} {l : List Int} {k : Nat} {x g : Int} (j : Nat) (hx : l[k]? = some x) (hg : fromv (N / pw (ats l k) % pw x) x = g) : withv (k : Int) g (j : Int) (cIf N l k j) = cIf N l (k + 1) j := by
  have ed : l.getD k 0 = x := by rw [List.getD, hx]; rfl
  unfold withv cIf
  by_cases h : k = j
  · subst h
    rw [if_pos rfl, if_pos (by omega), ed, hg]
  · rw [if_neg (by omega)]
    by_cases h2 : j < k
    · rw [if_pos h2, if_pos (by omega)]
    · rw [if_neg h2, if_neg (show ¬ j < k + 1 by omega)]

theorem dec_int {f : Int} {l : List Int} (hf : f = 1 ∨ f = 2 ∨ f = 3 ∨ f = 4) (hl : l.length = nsz f) (hr : ∀ x ∈ l, (0 : Int) ≤ x ∧ x ≤ 255) :
    dec f l 0 = (if f = 3 then cIf (litv l) (wds f) (ncm f) 2 else cIf (litv l) (wds f) (ncm f) 0) ∧ dec f l 1 = cIf (litv l) (wds f) (ncm f) 1 ∧
    dec f l 2 = (if f = 3 then cIf (litv l) (wds f) (ncm f) 0 else cIf (litv l) (wds f) (ncm f) 2) ∧ dec f l 3 = cIf (litv l) (wds f) (ncm f) 3 := by
  have p0 : pw 0 = 1 := by decide
  have p11 : pw 11 = 2048 := by decide
  have p16' : pw 16 = 65536 := by decide
  have p20 : pw 20 = 1048576 := by decide
  have p24 : pw 24 = 16777216 := by decide
  have p30 : pw 30 = 1073741824 := by decide
  have e : ∀ i, dec f l i = fields f (litv l) i := fun i => by
    unfold dec
    rw [if_neg (by rw [hl]; rcases hf with rfl | rfl | rfl | rfl <;> simp [nsz]), if_neg (by omega), if_neg (by omega)]
  have hn := litv_rng l hr
  rw [hl] at hn
  rw [e, e, e, e]
  obtain ⟨n, hne⟩ : ∃ n, litv l = n := ⟨_, rfl⟩
  rw [hne] at hn ⊢
  rcases hf with rfl | rfl | rfl | rfl
  · have hn1 : n < 256 := hn.2
    refine ⟨?_, rfl, rfl, rfl⟩
    show fromv n 8 = fromv (n / pw 0 % pw 8) 8
    rw [p0, p8, Int.ediv_one, Int.emod_eq_of_lt hn.1 hn1]
  · refine ⟨?_, ?_, ?_, ?_⟩
    · show fromv (n / 1 % 256) 8 = fromv (n / pw 0 % pw 8) 8
      rw [p0, p8]
    · show fromv (n / 256 % 256) 8 = fromv (n / pw 8 % pw 8) 8
      rw [p8]
    · show fromv (n / 65536 % 256) 8 = fromv (n / pw 16 % pw 8) 8
      rw [p16', p8]
    · show fromv (n / 16777216 % 256) 8 = fromv (n / pw 24 % pw 8) 8
      rw [p24, p8]
  · refine ⟨?_, ?_, ?_, rfl⟩
    · show fromv (n / 2048 % 32) 5 = fromv (n / pw 11 % pw 5) 5
      rw [p11, p5]
    · show fromv (n / 32 % 64) 6 = fromv (n / pw 5 % pw 6) 6
      rw [p5, p6]
    · show fromv (n % 32) 5 = fromv (n / pw 0 % pw 5) 5
      rw [p0, p5, Int.ediv_one]
  · refine ⟨?_, ?_, ?_, ?_⟩
    · show fromv (n / 1 % 1024) 10 = fromv (n / pw 0 % pw 10) 10
      rw [p0, p10]
    · show fromv (n / 1024 % 1024) 10 = fromv (n / pw 10 % pw 10) 10
      rw [p10]
    · show fromv (n / 1048576 % 1024) 10 = fromv (n / pw 20 % pw 10) 10
      rw [p20, p10]
    · show fromv (n / 1073741824 % 4) 2 = fromv (n / pw 30 % pw 2) 2
      rw [p30, p2]

set_option maxRecDepth 100000 in
set_option maxHeartbeats 2000000 in
theorem rdecode_int (f : Int) (A : Option Addr) (n c : Nat) (l : List Int) (w : World) (hf : f = 1 ∨ f = 2 ∨ f = 3 ∨ f = 4) (R : Rd w w.heap.size .u8 A n l) (hl : n = nsz f) :
    Calls Try.prog 50 #[.int .i64 f, .slice A n c] w fun e w' =>
      e = .returned (.agg #[.int .i64 (dec f l 0), .int .i64 (dec f l 1), .int .i64 (dec f l 2), .int .i64 (dec f l 3)]) ∧ Below w.heap.size w w' := by
  have hf5 : (f == 5) = false := by simp; omega
  have hf6 : (f == 6) = false := by simp; omega
  have cv := fun W => rvalid_q f W
  rw [show isf f = true by rcases hf with rfl | rfl | rfl | rfl <;> rfl] at cv
  have cs := fun W => rsize_q f W
  rw [← hl] at cs
  have hll : l.length = nsz f := by rw [R.len, hl]
  have hn4 : n ≤ 4 := by rw [hl]; rcases hf with rfl | rfl | rfl | rfl <;> decide
  obtain ⟨z0, z1, z2, z3⟩ := dec_int hf hll (rd_rng255 R)
  rw [z0, z1, z2, z3]
  have cwd := fun W => rwidths_n f W hf
  have hw := wds_rng hf
  have hs := wds_sum hf
  have hl4 : (wds f).length ≤ 4 := by rcases hf with rfl | rfl | rfl | rfl <;> decide
  rw [← wds_len hf]
  have csw := fun W => rswap_b f (cIf (litv l) (wds f) (wds f).length 0) (cIf (litv l) (wds f) (wds f).length 1) (cIf (litv l) (wds f) (wds f).length 2) (cIf (litv l) (wds f) (wds f).length 3) W
  obtain ⟨r0, hr0⟩ : ∃ r, (if f = 3 then cIf (litv l) (wds f) (wds f).length 2 else cIf (litv l) (wds f) (wds f).length 0) = r := ⟨_, rfl⟩
  obtain ⟨r2, hr2⟩ : ∃ r, (if f = 3 then cIf (litv l) (wds f) (wds f).length 0 else cIf (litv l) (wds f) (wds f).length 2) = r := ⟨_, rfl⟩
  rw [hr0, hr2] at csw ⊢
  clear hr0 hr2
  obtain ⟨wl, hwl⟩ : ∃ l, wds f = l := ⟨_, rfl⟩
  rw [hwl] at cwd hw hs hl4 csw ⊢
  have hN := (litv_rng l (rd_rng255 R)).1
  have hN2 := (litv_rng l (rd_rng255 R)).2
  have hN4 := pow256_le (show l.length ≤ 4 by omega)
  have e4 : (256 : Int) ^ 4 = 4294967296 := by decide
  have cn := fun W R => rnumber_b A n c w.heap.size l W R hn4
  obtain ⟨N, hNe⟩ : ∃ N, litv l = N := ⟨_, rfl⟩
  rw [hNe] at cn hN hN2 csw ⊢
  have hN5 : N < 4294967296 := by omega
  have CV := Lib.hid cv
  have CS := Lib.hid cs
  have CWD := Lib.hid cwd
  have CSW := Lib.hid csw
  have CN := Lib.hid cn
  have HW := Lib.hid hw
  have HS := Lib.hid hs
  clear cv cs cwd csw cn hw hs hN2 hN4 e4 hNe hwl hll hl z0 z1 z2 z3 hf
  have D0 := VBox.made w 0 0 0 0 44
  have e1 : (w.alloc (.cells #[.int .i64 0, .int .i64 0, .int .i64 0, .int .i64 0] 44)).heap.size = w.heap.size + 1 := by simp
  have B0 := box_below w #[.int .i64 0, .int .i64 0, .int .i64 0, .int .i64 0] 44
  have D1 := VBox.made (w.alloc (.cells #[.int .i64 0, .int .i64 0, .int .i64 0, .int .i64 0] 44)) 0 0 0 65536 44
  have B1 := box_below (w.alloc (.cells #[.int .i64 0, .int .i64 0, .int .i64 0, .int .i64 0] 44)) #[.int .i64 0, .int .i64 0, .int .i64 0, .int .i64 65536] 44
  have D2 := D0.on B1
  have BX := bon B0 B1
  rw [e1] at D1
  clear D0 B0 B1 e1
  go_enter Try.func50, Try.ntmps50
  go_wp2_with (first
    | (go_at_call 46; (with_reducible refine (CV.out _).mono ?_); rintro _ _ ⟨rfl, rfl⟩)
    | (go_at_call 48; (with_reducible refine (CS.out _).mono ?_); rintro _ _ ⟨rfl, rfl⟩)
    | (go_at_call 68; (with_reducible refine (CWD.out _).mono ?_); rintro _ W1 ⟨wb, rfl, wb0, wc, B⟩; replace D2 := D2.on B; replace D1 := D1.on B; replace BX := bon BX B)
    | (go_at_call 75; (with_reducible refine (CN.out _ (R.below BX)).mono ?_); rintro _ _ ⟨rfl, rfl⟩))
  have hwb : wb ≠ w.heap.size + 1 := by simp at wb0; omega
  clear B wb0
  go_loopw [8, 9] (fun t i wr => ∃ (k : Nat) (m : Int), k ≤ wl.length ∧ i = .int .i64 k ∧ t = .int .i64 m ∧ N / pw (ats wl k) = m ∧ VBox wr w.heap.size 0 0 0 0 ∧ VBox wr (w.heap.size + 1) (cIf N wl k 0) (cIf N wl k 1) (cIf N wl k 2) (cIf N wl k 3) ∧ (∀ (j : Nat) v, wl[j]? = some v → wr.cell? ⟨wb, j, none⟩ = some (.int .i64 v)) ∧ Below w.heap.size w wr) (fun _ i _ => wl.length - (intOf i).toNat)
  case atStart => exact ⟨0, N, by omega, rfl, rfl, by show N / pw 0 = N; rw [show pw 0 = 1 by decide, Int.ediv_one], D2, D1, wc, BX⟩
  case round =>
    clear D2 D1 wc BX
    obtain ⟨k, m, hk, rfl, rfl, hm, D2, D1, wc, BB⟩ := hrel
    have m0 : 0 ≤ m := by rw [← hm]; exact Int.ediv_nonneg hN (by have := pw_pos (ats wl k); omega)
    have m1 : m ≤ 4294967295 := by
      have h1 := Int.ediv_le_self (pw (ats wl k)) hN
      omega
    by_cases hlt : k < wl.length
    · obtain ⟨x, hx⟩ : ∃ x, wl[k]? = some x := ⟨_, List.getElem?_eq_getElem hlt⟩
      have cw := wc k x hx
      have hx1 := HW.out x (List.mem_of_getElem? hx)
      have ha0 := ats_nonneg HW.out k
      have hat := ats_succ hx
      have hpx := pw_16b hx1
      have hadd := pw_add (ats wl k) x ha0 (by omega)
      have h1 := pw_i64 x (by omega)
      have hm2 : m / pw x = N / pw (ats wl (k + 1)) := by rw [hat, hadd, ← hm, Int.ediv_ediv_of_nonneg (by have := pw_pos (ats wl k); omega)]
      have ht : m.tmod (pw x) = m % pw x := Int.tmod_eq_emod_of_nonneg m0
      have cg := fun W => rfromu_b (m % pw x) x W
      obtain ⟨g, hg⟩ : ∃ g, fromv (m % pw x) x = g := ⟨_, rfl⟩
      rw [hg] at cg
      rw [← hm] at hg
      have cwv := fun W => rwith_b (cIf N wl k 0) (cIf N wl k 1) (cIf N wl k 2) (cIf N wl k 3) (k : Int) g W
      have w0 : withv (k : Int) g 0 (cIf N wl k 0) = cIf N wl (k + 1) 0 := cIf_with 0 hx hg
      have w1 : withv (k : Int) g 1 (cIf N wl k 1) = cIf N wl (k + 1) 1 := cIf_with 1 hx hg
      have w2 : withv (k : Int) g 2 (cIf N wl k 2) = cIf N wl (k + 1) 2 := cIf_with 2 hx hg
      have w3 : withv (k : Int) g 3 (cIf N wl k 3) = cIf N wl (k + 1) 3 := cIf_with 3 hx hg
      rw [w0, w1, w2, w3] at cwv
      have hsh : m / 2 ^ x.toNat = N / pw (ats wl (k + 1)) := hm2
      obtain ⟨p, hp⟩ : ∃ p, pw x = p := ⟨_, rfl⟩
      rw [hp] at h1 ht cg hpx
      obtain ⟨q, hq⟩ : ∃ q, m % p = q := ⟨_, rfl⟩
      rw [hq] at ht cg
      obtain ⟨m2, hm2e⟩ : ∃ m2, N / pw (ats wl (k + 1)) = m2 := ⟨_, rfl⟩
      rw [hm2e] at hsh
      have HM2 := Lib.hid hm2e
      have HX := Lib.hid hx
      have HWC := Lib.hid wc
      have CG := Lib.hid cg
      have CWV := Lib.hid cwv
      have DD := Lib.hid D1
      have hkn := hlt
      obtain ⟨⟨c0, c1, c2, c3⟩, _⟩ := D1
      obtain ⟨p0, p1⟩ := hpx
      obtain ⟨x0, x1⟩ := hx1
      clear cg cwv w0 w1 w2 w3 hg hm hm2 hm2e hq hp hat hadd hx wc
      go_wp2_with fail
      have k_c0 := cell_regrown c0
      have k_c1 := cell_regrown c1
      have k_c2 := cell_regrown c2
      have k_c3 := cell_regrown c3
      have k_cw := cell_regrown cw
      refine wp_region_tail (n := 15) (by kernel_rfl) (by kernel_rfl) ?_
      simp only [List.take_succ_cons, List.take_zero, List.drop_succ_cons, List.drop_zero]
      repeat (first | go_big_quiet_step ((first | (go_at_call 76; exact Calls.regrown_of (CG.out _)) | (go_at_call 73; exact Calls.regrown_of (CWV.out _)))) | quiet_step ((first | (go_at_call 76; exact Calls.regrown_of (CG.out _)) | (go_at_call 73; exact Calls.regrown_of (CWV.out _)))))
      refine wpQuiet_nil ?_
      intro W hw'
      have B := below_regrown' hw'
      clear hw' k_c0 k_c1 k_c2 k_c3 k_cw
      replace BB := bon BB B
      replace c0 := cell_below B c0
      replace c1 := cell_below B c1
      replace c2 := cell_below B c2
      replace c3 := cell_below B c3
      replace cw := cell_below B cw
      have DV := DD.out.on B
      have WC := Lib.hid (fun j v hj => cell_below B (HWC.out j v hj))
      replace D2 := D2.on B
      go_wp2_with (refine wpList_vset rfl _ _ _ rfl _ _ _ _ rfl rfl DV (by kernel_rfl) ?_; intro V2 B2 D3 hD hc'; have hc := Lib.hid hc'; clear hc'; replace cw := (hc.out ⟨wb, k, none⟩ hwb).trans cw)
      go_roundw
      case rel => exact ⟨k + 1, m2, by omega, by go_num, rfl, HM2.out, hD _ _ _ _ _ (by omega) D2, D3, fun j v hj => (hc.out ⟨wb, j, none⟩ hwb).trans (WC.out j v hj), BB.trans (B2.mono (by omega))⟩
      case measure => simp [intOf]; omega
    · obtain rfl : k = wl.length := by omega
      obtain ⟨⟨c0, c1, c2, c3⟩, _⟩ := D1
      go_wp2_with (first
        | (go_at_call 69; (with_reducible refine (CSW.out _).mono ?_); rintro _ W3 ⟨rfl, B3⟩; replace D2 := D2.on B3; replace BB := bon BB B3)
        | (refine wpList_vset rfl _ _ _ rfl _ _ _ _ rfl rfl D2 (by kernel_rfl) ?_; intro V2 B2 D3 hD _))
      obtain ⟨⟨d0, d1, d2, d3⟩, _⟩ := D3
      exact bodyPost_ret (v := .agg #[.int .i64 r0, .int .i64 (cIf N wl wl.length 1), .int .i64 r2, .int .i64 (cIf N wl wl.length 3)]) (by simp [results, Try.results50, go_sem, *]) rfl ⟨rfl, BB.trans (B2.mono (by omega))⟩

/-- A vector of a texel. -/
def GivesV (W : World) (y : Nat → Int) (x : Ending) (w' : World) : Prop := x = .returned (.agg #[.int .i64 (y 0), .int .i64 (y 1), .int .i64 (y 2), .int .i64 (y 3)]) ∧ Below W.heap.size W w'

set_option maxRecDepth 100000 in
theorem rdecode_none (f : Int) (A : Option Addr) (n c : Nat) (l : List Int) (w : World) (hl : l.length = n) (h : nsz f = 0 ∨ n ≠ nsz f) :
    Calls Try.prog 50 #[.int .i64 f, .slice A n c] w (GivesV w (dec f l)) := by
  have B0 := box_below w #[.int .i64 0, .int .i64 0, .int .i64 0, .int .i64 0] 44
  unfold GivesV
  rw [dec_none (by rw [hl]; exact h), dec_none (by rw [hl]; exact h), dec_none (by rw [hl]; exact h), dec_none (by rw [hl]; exact h)]
  have cv := fun W => rvalid_q f W
  have cs := fun W => rsize_q f W
  rcases h with h | h
  · rw [show isf f = false by unfold isf; rw [h]; rfl] at cv
    have CV := Lib.hid cv
    clear cv cs h
    go_enter Try.func50, Try.ntmps50
    go_wp2_with (go_at_call 46; (with_reducible refine (CV.out _).mono ?_); rintro _ _ ⟨rfl, rfl⟩)
    exact bodyPost_ret (v := .agg #[.int .i64 0, .int .i64 0, .int .i64 0, .int .i64 0]) (by simp [results, Try.results50, go_sem]) rfl ⟨rfl, B0⟩
  · by_cases hz : nsz f = 0
    · rw [show isf f = false by unfold isf; rw [hz]; rfl] at cv
      have CV := Lib.hid cv
      clear cv cs h
      go_enter Try.func50, Try.ntmps50
      go_wp2_with (go_at_call 46; (with_reducible refine (CV.out _).mono ?_); rintro _ _ ⟨rfl, rfl⟩)
      exact bodyPost_ret (v := .agg #[.int .i64 0, .int .i64 0, .int .i64 0, .int .i64 0]) (by simp [results, Try.results50, go_sem]) rfl ⟨rfl, B0⟩
    · rw [show isf f = true by unfold isf; simp [hz]] at cv
      obtain ⟨s, hs⟩ : ∃ s, nsz f = s := ⟨_, rfl⟩
      rw [hs] at cs h
      have CV := Lib.hid cv
      have CS := Lib.hid cs
      have hne : ((n : Int) != (s : Int)) = true := by simp; omega
      clear cv cs h hz hs
      go_enter Try.func50, Try.ntmps50
      go_wp2_with (first
        | (go_at_call 46; (with_reducible refine (CV.out _).mono ?_); rintro _ _ ⟨rfl, rfl⟩)
        | (go_at_call 48; (with_reducible refine (CS.out _).mono ?_); rintro _ _ ⟨rfl, rfl⟩))
      exact bodyPost_ret (v := .agg #[.int .i64 0, .int .i64 0, .int .i64 0, .int .i64 0]) (by simp [results, Try.results50, go_sem]) rfl ⟨rfl, B0⟩

theorem rdecode_b (f : Int) (A : Option Addr) (n c : Nat) (l : List Int) (w : World) (R : Rd w w.heap.size .u8 A n l) (hc : n ≤ c) :
    Calls Try.prog 50 #[.int .i64 f, .slice A n c] w (GivesV w (dec f l)) := by
  by_cases hl : n = nsz f
  · rcases fmt_cases f with h | h | h | h | h | h | h
    · exact rdecode_int f A n c l w (by omega) R hl
    · exact rdecode_int f A n c l w (by omega) R hl
    · exact rdecode_int f A n c l w (by omega) R hl
    · exact rdecode_int f A n c l w (by omega) R hl
    · exact rdecode_half f A n c l w (by omega) R hl hc
    · exact rdecode_half f A n c l w (by omega) R hl hc
    · exact rdecode_none f A n c l w R.len (.inl (nsz_none h))
  · exact rdecode_none f A n c l w R.len (.inr hl)

set_option maxRecDepth 100000 in
theorem rquant_b (f x0 x1 x2 x3 : Int) (w : World) :
    Calls Try.prog 23 #[.int .i64 f, .agg #[.int .i64 x0, .int .i64 x1, .int .i64 x2, .int .i64 x3]] w (GivesV w (qnt f x0 x1 x2 x3)) := by
  have z1 : (w.alloc (.cells #[.int .i64 x0, .int .i64 x1, .int .i64 x2, .int .i64 x3] 44)).heap.size = w.heap.size + 1 := by simp
  have D0 := VBox.made w x0 x1 x2 x3 44
  have B0 := box_below w #[.int .i64 x0, .int .i64 x1, .int .i64 x2, .int .i64 x3] 44
  have D1 := VBox.made (w.alloc (.cells #[.int .i64 x0, .int .i64 x1, .int .i64 x2, .int .i64 x3] 44)) 0 0 0 0 44
  have B1 := box_below (w.alloc (.cells #[.int .i64 x0, .int .i64 x1, .int .i64 x2, .int .i64 x3] 44)) #[.int .i64 0, .int .i64 0, .int .i64 0, .int .i64 0] 44
  obtain ⟨⟨c0, c1, c2, c3⟩, _⟩ := D0.on B1
  have BB := bon B0 B1
  rw [z1] at D1
  have ce := fun W => rencode_b f x0 x1 x2 x3 W
  have CE := Lib.hid ce
  unfold qnt
  obtain ⟨l, hl⟩ : ∃ l, enc f x0 x1 x2 x3 = l := ⟨_, rfl⟩
  rw [hl] at CE
  have cd := fun A n c W R hc => rdecode_b f A n c l W R hc
  obtain ⟨y, hy⟩ : ∃ y : Nat → Int, (fun i => dec f (enc f x0 x1 x2 x3) i) = y := ⟨_, rfl⟩
  rw [hy]
  have ey : dec f l = y := by rw [← hy, hl]
  rw [ey] at cd
  have CD := Lib.hid cd
  clear ce cd hl hy ey B0 B1 D0 z1
  go_enter Try.func23, Try.ntmps23
  go_wp2_with (first
    | (go_at_call 41; (with_reducible refine (CE.out _).mono ?_); rintro _ W1 ⟨A1, n1, d1, rfl, hc1, R1, B⟩; replace D1 := D1.on B; replace BB := bon BB B; clear B)
    | (go_at_call 50; (with_reducible refine (CD.out _ _ _ _ R1 hc1).mono ?_); rintro _ W2 ⟨rfl, B⟩; replace D1 := D1.on B; replace BB := bon BB B; clear B)
    | (refine wpList_vset rfl _ _ _ rfl _ _ _ _ rfl rfl D1 (by kernel_rfl) ?_; intro V2 B2 D3 hD _))
  obtain ⟨⟨d0, d1, d2, d3⟩, _⟩ := D3
  exact bodyPost_ret (v := .agg #[.int .i64 (y 0), .int .i64 (y 1), .int .i64 (y 2), .int .i64 (y 3)]) (by simp [results, Try.results23, go_sem, *]) rfl ⟨rfl, BB.trans (B2.mono (by omega))⟩

end Go.Proofs.Ytcjlgfadjedgbaa
