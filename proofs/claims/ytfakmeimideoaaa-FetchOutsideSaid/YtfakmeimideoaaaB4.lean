/- What package buffer's LoadAttribute returns. -/
import Derived.Test.YtfakmeimideoaaaB2
import Derived.Test.YtfakmeimideoaaaB3w
import Derived.Test.YtfakmeimideoaaaTail
namespace Go.Proofs.Ytfakmeimideoaaa
open Go.RowKit Go.Sort Go.ChangeShapes Go.WideShapes

set_option maxRecDepth 100000 in
theorem hasVertex_b (A : Option Addr) (n c : Nat) (b o s f v : Int) (w : World) (_hn : n ≤ 9223372036854775807) (h : attr b o s f) :
    Calls Try.prog 38 #[.slice A n c, .agg #[.int .i64 b, .int .i64 o, .int .i64 s, .int .i64 f], .int .i64 v] w fun e w' => e = .returned (.bool (decide (0 ≤ v ∧ v ≤ 65536 ∧ o + v * s + (sizv f : Nat) ≤ n))) ∧ Below w.heap.size w w' := by
  obtain ⟨a0, a1, a2, a3, BB⟩ := box4 w (.int .i64 b) (.int .i64 o) (.int .i64 s) (.int .i64 f) 45
  obtain ⟨-, ⟨o0, o1⟩, ⟨s0, s1⟩, -⟩ := h
  have hz := sizv_le f
  have cz := fun W => of_q (size_q f W)
  obtain ⟨z, hz'⟩ : ∃ z, sizv f = z := ⟨_, rfl⟩
  obtain ⟨q, hq⟩ : ∃ q, v * s = q := ⟨_, rfl⟩
  rw [hz'] at cz hz ⊢
  rw [hq]
  have CZ := Lib.hid cz
  have hqb : 0 ≤ v → v ≤ 65536 → 0 ≤ q ∧ q ≤ 65536 * 256 := fun h0 h1 => by rw [← hq]; exact mul_bds h0 h1 s0 s1
  clear cz hz'
  rcases (show v < 0 ∨ (0 ≤ v ∧ 65536 < v) ∨ (0 ≤ v ∧ v ≤ 65536) by omega) with h1 | ⟨h1, h2⟩ | ⟨h1, h2⟩
  · rw [decide_eq_false fun h => by omega]
    have t1 : decide (0 ≤ v) = false := decide_eq_false (by omega)
    clear hq hqb CZ
    go_enter Try.func38, Try.ntmps38
    go_wp2_with fail
    have k_a0 := cell_regrown a0
    have k_a1 := cell_regrown a1
    have k_a2 := cell_regrown a2
    have k_a3 := cell_regrown a3
    refine wp_region_tail (n := 22) (by kernel_rfl) (by kernel_rfl) ?_
    simp only [List.take_succ_cons, List.take_zero, List.drop_succ_cons, List.drop_zero]
    repeat (first | go_big_quiet_step ((first | fail)) | quiet_step ((first | fail)))
    refine wpQuiet_nil ?_
    intro W hw'
    have B := below_regrown' hw'
    clear hw' k_a0 k_a1 k_a2 k_a3
    replace BB := bon BB B
    replace a0 := cell_below B a0
    replace a1 := cell_below B a1
    replace a2 := cell_below B a2
    replace a3 := cell_below B a3
    go_wp2
    go_ret
    exact ⟨rfl, BB⟩
  · rw [decide_eq_false fun h => by omega]
    have t1 : decide (0 ≤ v) = true := decide_eq_true h1
    have t2 : decide (v ≤ 65536) = false := decide_eq_false (by omega)
    clear hq hqb CZ
    go_enter Try.func38, Try.ntmps38
    go_wp2_with fail
    have k_a0 := cell_regrown a0
    have k_a1 := cell_regrown a1
    have k_a2 := cell_regrown a2
    have k_a3 := cell_regrown a3
    refine wp_region_tail (n := 22) (by kernel_rfl) (by kernel_rfl) ?_
    simp only [List.take_succ_cons, List.take_zero, List.drop_succ_cons, List.drop_zero]
    repeat (first | go_big_quiet_step ((first | fail)) | quiet_step ((first | fail)))
    refine wpQuiet_nil ?_
    intro W hw'
    have B := below_regrown' hw'
    clear hw' k_a0 k_a1 k_a2 k_a3
    replace BB := bon BB B
    replace a0 := cell_below B a0
    replace a1 := cell_below B a1
    replace a2 := cell_below B a2
    replace a3 := cell_below B a3
    go_wp2
    go_ret
    exact ⟨rfl, BB⟩
  · obtain ⟨q0, q1⟩ := hqb h1 h2
    have g1 : IntKind.i64.wrap (v * s) = q := by rw [hq]; exact IntWalk.i64_in _ (by omega)
    rw [show decide (0 ≤ v ∧ v ≤ 65536 ∧ o + q + (z : Nat) ≤ n) = decide (o + q + (z : Int) ≤ n) from decide_eq_decide.2 ⟨fun h => h.2.2, fun h => ⟨h1, h2, h⟩⟩]
    have t1 : decide (0 ≤ v) = true := decide_eq_true h1
    have t2 : decide (v ≤ 65536) = true := decide_eq_true h2
    clear hq hqb
    go_enter Try.func38, Try.ntmps38
    go_wp2_with fail
    have k_a0 := cell_regrown a0
    have k_a1 := cell_regrown a1
    have k_a2 := cell_regrown a2
    have k_a3 := cell_regrown a3
    refine wp_region_tail (n := 22) (by kernel_rfl) (by kernel_rfl) ?_
    simp only [List.take_succ_cons, List.take_zero, List.drop_succ_cons, List.drop_zero]
    repeat (first | go_big_quiet_step ((first | (go_at_call 46; exact Calls.regrown_of (CZ.out _)))) | quiet_step ((first | (go_at_call 46; exact Calls.regrown_of (CZ.out _)))))
    refine wpQuiet_nil ?_
    intro W hw'
    have B := below_regrown' hw'
    clear hw' k_a0 k_a1 k_a2 k_a3
    replace BB := bon BB B
    replace a0 := cell_below B a0
    replace a1 := cell_below B a1
    replace a2 := cell_below B a2
    replace a3 := cell_below B a3
    go_wp2
    go_ret
    exact ⟨rfl, BB⟩

set_option maxRecDepth 100000 in
set_option maxHeartbeats 1000000 in
theorem load_in (A : Option Addr) (n c : Nat) (l : List Int) (b o s f v q : Int) (p : Nat) (w : World) (R : Rd w w.heap.size .u8 A n l) (hn : n ≤ 9223372036854775807) (h : attr b o s f) (hv : 0 ≤ v ∧ v ≤ 65536) (hq : v * s = q) (hp : o + q = p) (hfit : p + sizv f ≤ n) :
    Calls Try.prog 27 #[.slice A n c, .agg #[.int .i64 b, .int .i64 o, .int .i64 s, .int .i64 f], .int .i64 v] w (GivesRd w .i64 (lat f l p (cps f))) := by
  obtain ⟨a0, a1, a2, a3, BB⟩ := box4 w (.int .i64 b) (.int .i64 o) (.int .i64 s) (.int .i64 f) 45
  have K := R.on BB
  have hr := rd_rng255 R
  have hl := R.len
  have cv := fun W => attr_b b o s f W
  have ch := fun W => hasVertex_b A n c b o s f v W hn h
  rw [decide_eq_true h] at cv
  rw [decide_eq_true ⟨hv.1, hv.2, by rw [hq]; omega⟩] at ch
  obtain ⟨-, ⟨o0, o1⟩, ⟨s0, s1⟩, k1⟩ := h
  have hqb := mul_bds hv.1 hv.2 s0 s1
  rw [hq] at hqb
  obtain ⟨q0, q1⟩ := hqb
  have g1 : IntKind.i64.wrap (v * s) = q := by rw [hq]; exact IntWalk.i64_in _ (by omega)
  obtain ⟨v0, v1⟩ := hv
  have hj := fun j => comp_in (f := f) (p := p) (n := n) (j := j) hfit
  have hst := lat_set f l p
  have hx := fun j (h : j < cps f) => part_lt (l := l) (p := p + j * csz f) (m := csz f) hr (by rw [hl]; exact hj j h)
  have hx4 := fun j (h : j < cps f) => part_lt4 (l := l) (p := p + j * csz f) (m := csz f) hr (by rw [hl]; exact hj j h) (csz_rng f).2
  have cl := fun W (RW : Rd W W.heap.size .u8 A n l) j (h : j < cps f) p' (hp' : p' = ((p + j * csz f : Nat) : Int)) => blittle_at A n c l W RW p' (csz f) (p + j * csz f) (csz f) hp' rfl hn (csz_rng f).1 (csz_rng f).2 (hj j h)
  have cd := fun W x (h0 : 0 ≤ x) (h1 : x < 256 ^ csz f) => decode_b f x W h0 h1
  have hrg := fun x (h0 : 0 ≤ x) (h1 : x < 4294967296) => dcd_rng (f := f) h0 h1
  have k4 := cps_le f
  have hc4 := csz_rng f
  have cc := fun W => of_q (cps_q f W)
  have cz := fun W => of_q (csz_q f W)
  have hl0 : lat f l p 0 = [] := rfl
  obtain ⟨LT, hLT⟩ : ∃ LT : Nat → List Int, lat f l p = LT := ⟨_, rfl⟩
  rw [hLT] at hl0 hst ⊢
  obtain ⟨D, hD⟩ : ∃ D : Int → Int, dcd f = D := ⟨_, rfl⟩
  rw [hD] at hst cd hrg
  obtain ⟨k, hk⟩ : ∃ k, cps f = k := ⟨_, rfl⟩
  obtain ⟨z, hz'⟩ : ∃ z, csz f = z := ⟨_, rfl⟩
  rw [hk] at cc hj hx hx4 k1 k4 cl ⊢
  rw [hz'] at cz cl hj hx hx4 hst cd hc4
  have CV := Lib.hid cv
  have CH := Lib.hid ch
  have CC := Lib.hid cc
  have CZ := Lib.hid cz
  have CL := Lib.hid cl
  have CD := Lib.hid cd
  have HJ := Lib.hid hj
  have HST := Lib.hid hst
  have HX := Lib.hid hx
  have HX4 := Lib.hid hx4
  have HRG := Lib.hid hrg
  have HL0 := Lib.hid hl0
  have G1 := Lib.hid g1
  clear cv ch cc cz cl cd hj hst hx hx4 hr hl R hq hk hz' hrg hLT hl0 hD g1
  go_enter Try.func27, Try.ntmps27
  go_wp2_with (first
    | (go_at_call 33; (with_reducible refine (CV.out _).mono ?_); rintro _ W1 ⟨rfl, B⟩; replace a0 := cell_below B a0; (replace BB := bon BB B; replace K := Rd.on K B; replace a1 := cell_below B a1; replace a2 := cell_below B a2; replace a3 := cell_below B a3); clear B)
    | (go_at_call 31; (with_reducible refine (CC.out _).mono ?_); rintro _ W3 ⟨rfl, B⟩; replace a0 := cell_below B a0; (replace BB := bon BB B; replace K := Rd.on K B; replace a1 := cell_below B a1; replace a2 := cell_below B a2; replace a3 := cell_below B a3); clear B)
    | (refine wpList_makeV _ rfl _ _ _ rfl Try.underlying30 biI rfl .i64 .i64 k rfl rfl (by omega) (by simp only [maxLen]; omega) W3.heap.size (Nat.le_refl _) ?_; intro bb W2 own2 B2 hb2; have e1 := a1; have e2 := a2; have e3 := a3; have KK := Lib.hid K; have BK := Lib.hid BB; replace a0 := cell_below B2 a0; replace a1 := cell_below B2 a1; replace a2 := cell_below B2 a2; replace a3 := cell_below B2 a3; replace own2 := own2.zeros)
    | (go_at_call 38; (with_reducible refine (CH.out _).mono ?_); rintro _ W4 ⟨rfl, B⟩; replace own2 := own2.on B; replace B2 := bon B2 B; replace a3 := cell_below B a3; clear B)
    | (go_at_call 39; (with_reducible refine (CZ.out _).mono ?_); rintro _ W5 ⟨rfl, B⟩; replace own2 := own2.on B; replace B2 := bon B2 B; clear B))
  clear a0 a1 a2 a3 K BB CV CH CC CZ
  have G2 : Hid (∀ j, j < k → IntKind.i64.wrap ((j : Int) * z) = ((j * z : Nat) : Int) ∧ j * z ≤ 16) := Lib.hid fun j hj => by
    have h1 : j * z ≤ 4 * 4 := Nat.mul_le_mul (by omega) hc4.2
    exact ⟨by rw [← Int.natCast_mul]; exact IntWalk.i64_in _ (by omega), h1⟩
  go_loopw [28] (fun i wr => ∃ j : Nat, j ≤ k ∧ i = .int .i64 j ∧ Own wr W3.heap.size 3 .i64 (some ⟨bb, 0, none⟩) k k (LT j ++ List.replicate (k - j) 0) ∧ Below W3.heap.size W3 wr) (fun i _ => k - (intOf i).toNat)
  case atStart => exact ⟨0, by omega, rfl, by rw [HL0.out]; exact own2, B2⟩
  case round =>
    clear own2 B2
    obtain ⟨j, hjk, rfl, own, BR⟩ := hrel
    by_cases hlt : j < k
    · have K := KK.out.on BR
      have a1 := cell_below BR e1
      have a2 := cell_below BR e2
      have a3 := cell_below BR e3
      have BB := bon BK.out BR
      have g1 := G1.out
      obtain ⟨g2, g3⟩ := G2.out j hlt
      have hJ := HJ.out j hlt
      have hX := HX.out j hlt
      have hY := HX4.out j hlt
      have cl := fun W RW => CL.out W RW j hlt
      obtain ⟨m, hm⟩ : ∃ m, k - j = m + 1 := ⟨k - j - 1, by omega⟩
      have hm2 : k - (j + 1) = m := by omega
      rw [hm] at own
      have hS := HST.out j m _ rfl
      obtain ⟨t, ht⟩ : ∃ t, j * z = t := ⟨_, rfl⟩
      rw [ht] at g2 g3 hJ hX hY hS cl
      obtain ⟨x, hx⟩ : ∃ x, litv (part l (p + t) z) = x := ⟨_, rfl⟩
      rw [hx] at hX hY hS cl
      have hR := HRG.out x hY.1 hY.2
      have HS := Lib.hid hS
      have CLJ := Lib.hid (fun W RW => cl W RW ((p : Int) + (t : Int)) (by omega))
      have CDJ := Lib.hid (fun W => CD.out W x hX.1 hX.2)
      clear hS cl hx hX hY ht
      go_wp2_with fail
      have k_a1 := cell_regrown a1
      have k_a2 := cell_regrown a2
      have k_a3 := cell_regrown a3
      refine wp_region_tail (n := 19) (by kernel_rfl) (by kernel_rfl) ?_
      simp only [List.take_succ_cons, List.take_zero, List.drop_succ_cons, List.drop_zero]
      repeat (first | go_big_quiet_step ((first | (go_at_call 25; exact Calls.regrown_of (CLJ.out _ (K.on (below_regrown _ _ _)))) | (go_at_call 40; exact Calls.regrown_of (CDJ.out _)))) | quiet_step ((first | (go_at_call 25; exact Calls.regrown_of (CLJ.out _ (K.on (below_regrown _ _ _)))) | (go_at_call 40; exact Calls.regrown_of (CDJ.out _)))))
      refine wpQuiet_nil ?_
      intro W hw'
      have B := below_regrown' hw'
      clear hw' k_a1 k_a2 k_a3
      replace BB := bon BB B
      replace K := Rd.on K B
      replace a1 := cell_below B a1
      replace a2 := cell_below B a2
      replace a3 := cell_below B a3
      replace own := own.on B
      have BS := bon BR B
      clear B
      obtain ⟨b9, hb9, _, ⟨u9, cu⟩, fu, own2, B2⟩ := own.stored (j := j) (v := D x) (by omega) (by rw [i64_min, i64_max]; exact hR)
      cases hb9
      go_wp2
      go_roundw
      case rel => exact ⟨j + 1, by omega, by go_num, by rw [hm2, ← HS.out]; exact own2, BS.trans B2⟩
      case measure => simp [intOf]; omega
    · obtain rfl : j = k := by omega
      rw [Nat.sub_self, List.replicate_zero, List.append_nil] at own
      go_wp2
      go_ret
      exact ⟨_, _, _, rfl, own.room, own.rd, bon BK.out BR⟩

set_option maxRecDepth 100000 in
theorem load_out (A : Option Addr) (n c : Nat) (b o s f v : Int) (w : World) (hn : n ≤ 9223372036854775807) (h : attr b o s f) (hv : ¬ (0 ≤ v ∧ v ≤ 65536 ∧ o + v * s + (sizv f : Nat) ≤ n)) :
    Calls Try.prog 27 #[.slice A n c, .agg #[.int .i64 b, .int .i64 o, .int .i64 s, .int .i64 f], .int .i64 v] w (GivesRd w .i64 (List.replicate (cps f) 0)) := by
  obtain ⟨a0, a1, a2, a3, BB⟩ := box4 w (.int .i64 b) (.int .i64 o) (.int .i64 s) (.int .i64 f) 45
  have cv := fun W => attr_b b o s f W
  have ch := fun W => hasVertex_b A n c b o s f v W hn h
  rw [decide_eq_true h] at cv
  rw [decide_eq_false hv] at ch
  have k4 := cps_le f
  have cc := fun W => of_q (cps_q f W)
  obtain ⟨k, hk⟩ : ∃ k, cps f = k := ⟨_, rfl⟩
  rw [hk] at cc k4 ⊢
  have CV := Lib.hid cv
  have CH := Lib.hid ch
  have CC := Lib.hid cc
  clear cv ch cc hk h hv
  go_enter Try.func27, Try.ntmps27
  go_wp2_with (first
    | (go_at_call 33; (with_reducible refine (CV.out _).mono ?_); rintro _ W1 ⟨rfl, B⟩; (replace BB := bon BB B; replace a0 := cell_below B a0; replace a1 := cell_below B a1; replace a2 := cell_below B a2; replace a3 := cell_below B a3); clear B)
    | (go_at_call 31; (with_reducible refine (CC.out _).mono ?_); rintro _ W3 ⟨rfl, B⟩; (replace BB := bon BB B; replace a0 := cell_below B a0; replace a1 := cell_below B a1; replace a2 := cell_below B a2; replace a3 := cell_below B a3); clear B)
    | (refine wpList_makeV _ rfl _ _ _ rfl Try.underlying30 biI rfl .i64 .i64 k rfl rfl (by omega) (by simp only [maxLen]; omega) W3.heap.size (Nat.le_refl _) ?_; intro bb W2 own2 B2 hb2; replace a0 := cell_below B2 a0; replace a1 := cell_below B2 a1; replace a2 := cell_below B2 a2; replace a3 := cell_below B2 a3; replace own2 := own2.zeros)
    | (go_at_call 38; (with_reducible refine (CH.out _).mono ?_); rintro _ W4 ⟨rfl, B⟩; replace own2 := own2.on B; replace B2 := bon B2 B; clear B))
  go_ret
  exact ⟨_, _, _, rfl, own2.room, own2.rd, bon BB B2⟩

set_option maxRecDepth 100000 in
theorem load_no (A : Option Addr) (n c : Nat) (b o s f v : Int) (w : World) (h : ¬ attr b o s f) :
    Calls Try.prog 27 #[.slice A n c, .agg #[.int .i64 b, .int .i64 o, .int .i64 s, .int .i64 f], .int .i64 v] w (GivesRd w .i64 []) := by
  obtain ⟨a0, a1, a2, a3, BB⟩ := box4 w (.int .i64 b) (.int .i64 o) (.int .i64 s) (.int .i64 f) 45
  have cv := fun W => attr_b b o s f W
  rw [decide_eq_false h] at cv
  have CV := Lib.hid cv
  clear cv h
  go_enter Try.func27, Try.ntmps27
  go_wp2_with (first | (go_at_call 33; refine (CV.out _).mono ?_; rintro _ _ ⟨rfl, B⟩; replace BB := bon BB B; replace a0 := cell_below B a0; replace a1 := cell_below B a1; replace a2 := cell_below B a2; replace a3 := cell_below B a3))
  go_ret
  exact ⟨_, _, _, rfl, Nat.le_refl _, Rd.nil _ _ _ _, BB⟩

theorem load_b (A : Option Addr) (n c : Nat) (l : List Int) (b o s f v : Int) (w : World) (R : Rd w w.heap.size .u8 A n l) (hn : n ≤ 9223372036854775807) :
    Calls Try.prog 27 #[.slice A n c, .agg #[.int .i64 b, .int .i64 o, .int .i64 s, .int .i64 f], .int .i64 v] w (GivesRd w .i64 (ldv l b o s f v)) := by
  unfold ldv
  rw [R.len]
  by_cases h : attr b o s f
  · rw [if_pos h]
    by_cases hv : 0 ≤ v ∧ v ≤ 65536 ∧ o + v * s + (sizv f : Nat) ≤ n
    · rw [if_pos hv]
      obtain ⟨hb, ho, hs, hk⟩ := id h
      have hq := mul_bds hv.1 hv.2.1 hs.1 hs.2
      exact load_in A n c l b o s f v _ _ w R hn h ⟨hv.1, hv.2.1⟩ rfl (show o + v * s = ((o + v * s).toNat : Int) by omega) (by omega)
    · rw [if_neg hv]
      exact load_out A n c b o s f v w hn h hv
  · rw [if_neg h]
    exact load_no A n c b o s f v w h

end Go.Proofs.Ytfakmeimideoaaa
