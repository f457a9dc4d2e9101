/- The same of formats with fixed numbers. -/
import Derived.Test.YtfakmeimideoaaaB3
namespace Go.Proofs.Ytfakmeimideoaaa
open Go.RowKit Go.Sort Go.ChangeShapes Go.WideShapes

set_option maxRecDepth 100000 in
set_option maxHeartbeats 1000000 in
theorem rload_word (A : Option Addr) (n c : Nat) (l : List Int) (b o s f v q : Int) (p : Nat) (w : World) (R : Rd w w.heap.size .u8 A n l) (hn : n ≤ 9223372036854775807) (h : attr b o s f) (hv : 0 ≤ v ∧ v ≤ 65536) (hq : v * s = q) (hp : o + q = p) (hfit : p + sizv f ≤ n) (hf : f = 1 ∨ f = 2 ∨ f = 3 ∨ f = 4) :
    Calls Try.prog 29 #[.slice A n c, .agg #[.int .i64 b, .int .i64 o, .int .i64 s, .int .i64 f], .int .i64 v] w (GivesRd w .i64 (lat f l p (cps f))) := by
  obtain ⟨a0, a1, a2, a3, BB⟩ := box4 w (.int .i64 b) (.int .i64 o) (.int .i64 s) (.int .i64 f) 45
  have K1 := R.on BB
  have hr := rd_rng255 R
  have hl := R.len
  have cv := fun W => rattr_b b o s f W
  rw [decide_eq_true h] at cv
  obtain ⟨-, ⟨o0, o1⟩, ⟨s0, s1⟩, k1⟩ := h
  have hqb := mul_bds hv.1 hv.2 s0 s1
  rw [hq] at hqb
  obtain ⟨q0, q1⟩ := hqb
  have g1 : IntKind.i64.wrap (v * s) = q := by rw [hq]; exact IntWalk.i64_in _ (by omega)
  obtain ⟨v0, v1⟩ := hv
  have hj := fun j => comp_in (f := f) (p := p) (n := n) (j := j) hfit
  have hst := lat_set f l p
  have hx := fun j (h : j < cps f) => part_lt4 (l := l) (p := p + j * csz f) (m := csz f) hr (by rw [hl]; exact hj j h) (csz_rng f).2
  have hcs : csz f = 4 := by exact csz_none (by omega)
  have hd : ∀ n, dcd f n = sat (sg n) := dcd_fix (by omega)
  have hrg : ∀ n, 0 ≤ n → n < 4294967296 → -9223372036854775808 ≤ sat (sg n) ∧ sat (sg n) ≤ 9223372036854775807 := by intro n h0 h1; rw [← hd]; exact dcd_rng h0 h1
  rw [hcs] at hj hst hx
  simp only [hd] at hst
  have k4 := cps_le f
  have CV := Lib.hid cv
  have cc := fun W => rcps_q f W
  have cz := fun W => rsize_q f W
  have hz := sizv_le f
  have hl0 : lat f l p 0 = [] := rfl
  obtain ⟨LT, hLT⟩ : ∃ LT : Nat → List Int, lat f l p = LT := ⟨_, rfl⟩
  rw [hLT] at hl0 hst ⊢
  obtain ⟨k, hk⟩ : ∃ k, cps f = k := ⟨_, rfl⟩
  obtain ⟨z, hz'⟩ : ∃ z, sizv f = z := ⟨_, rfl⟩
  rw [hk] at cc hj hx k1 k4 ⊢
  rw [hz'] at cz hfit hz
  have CC := Lib.hid cc
  have CZ := Lib.hid cz
  have HJ := Lib.hid hj
  have HST := Lib.hid hst
  have HX := Lib.hid hx
  have HR := Lib.hid hr
  have HL := Lib.hid hl
  have HRG := Lib.hid hrg
  have HL0 := Lib.hid hl0
  clear cv cc cz hj hst hx hr hl R hq hk hz' hcs hd hrg hLT hl0
  rcases hf with rfl | rfl | rfl | rfl
  all_goals
    go_enter Try.func29, Try.ntmps29
    go_wp2_with (first
      | (go_at_call 34; (with_reducible refine (CV.out _).mono ?_); rintro _ W1 ⟨rfl, B⟩; (replace BB := bon BB B; replace K1 := Rd.on K1 B; replace a0 := cell_below B a0; replace a1 := cell_below B a1; replace a2 := cell_below B a2; replace a3 := cell_below B a3); clear B)
      | (go_at_call 32; (with_reducible refine (CC.out _).mono ?_); rintro _ _ ⟨rfl, rfl⟩)
      | (go_at_call 41; (with_reducible refine (CZ.out _).mono ?_); rintro _ _ ⟨rfl, rfl⟩)
      | (refine wpList_makeV _ rfl _ _ _ rfl Try.underlying30 biI rfl .i64 .i64 k rfl rfl (by omega) (by simp only [maxLen]; omega) W1.heap.size (Nat.le_refl _) ?_; intro bb W2 own2 B2 hb2; have e0 := a0; have e1 := a1; have e2 := a2; have e3 := a3; replace a1 := cell_below B2 a1; replace a2 := cell_below B2 a2; replace a3 := cell_below B2 a3))
    replace own2 := own2.zeros
    clear a0 a1 a2 a3 CV CC CZ g1
    go_loopw [10] (fun i wr => ∃ j : Nat, j ≤ k ∧ i = .int .i64 j ∧ Own wr W1.heap.size 3 .i64 (some ⟨bb, 0, none⟩) k k (LT j ++ List.replicate (k - j) 0) ∧ Below W1.heap.size W1 wr) (fun i _ => k - (intOf i).toNat)
    case atStart => exact ⟨0, by omega, rfl, by rw [HL0.out]; exact own2, B2⟩
    case round =>
      clear own2 B2
      obtain ⟨j, hjk, rfl, own, BR⟩ := hrel
      by_cases hlt : j < k
      · have K := K1.on BR
        have d3 := cell_below BR e3
        have hJ := HJ.out j hlt
        have hX := HX.out j hlt
        obtain ⟨m, hm⟩ : ∃ m, k - j = m + 1 := ⟨k - j - 1, by omega⟩
        have hm2 : k - (j + 1) = m := by omega
        rw [hm] at own
        have hS := HST.out j m _ rfl
        have hY := HRG.out _ hX.1 hX.2
        obtain ⟨y, hy⟩ : ∃ y, litv (part l (p + j * 4) 4) = y := ⟨_, rfl⟩
        have cw := fun W (RW : Rd W W.heap.size .u8 A n l) q hq => rword_b A n c l q (p + j * 4) W hq RW hn hJ
        rw [hy] at hS hY cw
        have CW := Lib.hid cw
        have HS := Lib.hid hS
        clear hy hS cw hX
        go_wp2_with (first
          | (go_at_call 43; (refine (CW.out _ K _ (by omega)).mono ?_); rintro _ V ⟨rfl, B⟩; replace own := own.on B; replace BR := bon BR B; skip)
          | (go_at_call 42; (refine (rlimit_q _ _ _ _ (by omega)).mono ?_); rintro _ _ ⟨rfl, rfl⟩; rw [clamp_sat]; (obtain ⟨b9, hb9, _, ⟨u9, cu⟩, fu, own2, B2⟩ := own.stored (j := j) (v := sat (sg y)) (by omega) (by rw [i64_min, i64_max]; exact hY); cases hb9)))
        go_roundw
        case rel => exact ⟨j + 1, by omega, by go_num, by rw [hm2, ← HS.out]; exact own2, BR.trans B2⟩
        case measure => simp [intOf]; omega
      · obtain rfl : j = k := by omega
        rw [Nat.sub_self, List.replicate_zero, List.append_nil] at own
        go_wp2
        go_ret
        exact ⟨_, _, _, rfl, own.room, own.rd, bon BB BR⟩

set_option maxRecDepth 100000 in
set_option maxHeartbeats 1000000 in
theorem rload_out (A : Option Addr) (n c : Nat) (l : List Int) (b o s f v : Int) (w : World) (R : Rd w w.heap.size .u8 A n l) (hn : n ≤ 9223372036854775807) (h : attr b o s f) (hv : ¬ (0 ≤ v ∧ v ≤ 65536 ∧ o + v * s + (sizv f : Nat) ≤ n)) :
    Calls Try.prog 29 #[.slice A n c, .agg #[.int .i64 b, .int .i64 o, .int .i64 s, .int .i64 f], .int .i64 v] w (GivesRd w .i64 (List.replicate (cps f) 0)) := by
  obtain ⟨a0, a1, a2, a3, BB⟩ := box4 w (.int .i64 b) (.int .i64 o) (.int .i64 s) (.int .i64 f) 45
  have K1 := R.on BB
  have cv := fun W => rattr_b b o s f W
  rw [decide_eq_true h] at cv
  obtain ⟨-, ⟨o0, o1⟩, ⟨s0, s1⟩, k1⟩ := h
  have k4 := cps_le f
  have hz := sizv_le f
  have cc := fun W => rcps_q f W
  have cz := fun W => rsize_q f W
  obtain ⟨k, hk⟩ : ∃ k, cps f = k := ⟨_, rfl⟩
  obtain ⟨z, hz'⟩ : ∃ z, sizv f = z := ⟨_, rfl⟩
  obtain ⟨q, hq⟩ : ∃ q, v * s = q := ⟨_, rfl⟩
  rw [hk] at cc k1 k4 ⊢
  rw [hz'] at cz hv hz
  rw [hq] at hv
  have CV := Lib.hid cv
  have CC := Lib.hid cc
  have CZ := Lib.hid cz
  have hqb : 0 ≤ v → v ≤ 65536 → 0 ≤ q ∧ q ≤ 65536 * 256 := fun h0 h1 => by rw [← hq]; exact mul_bds h0 h1 s0 s1
  clear cv cc cz hk hz' R
  rcases (show v < 0 ∨ (0 ≤ v ∧ 65536 < v) ∨ (0 ≤ v ∧ v ≤ 65536 ∧ (n : Int) < o + q + z) by omega) with h1 | ⟨h1, h2⟩ | ⟨h1, h2, h3⟩
  · clear hq hqb hv
    go_enter Try.func29, Try.ntmps29
    go_wp2_with (first
      | (go_at_call 34; (with_reducible refine (CV.out _).mono ?_); rintro _ W1 ⟨rfl, B⟩; (replace BB := bon BB B; replace K1 := Rd.on K1 B; replace a0 := cell_below B a0; replace a1 := cell_below B a1; replace a2 := cell_below B a2; replace a3 := cell_below B a3); clear B)
      | (go_at_call 32; (with_reducible refine (CC.out _).mono ?_); rintro _ _ ⟨rfl, rfl⟩)
      | (refine wpList_makeV _ rfl _ _ _ rfl Try.underlying30 biI rfl .i64 .i64 k rfl rfl (by omega) (by simp only [maxLen]; omega) W1.heap.size (Nat.le_refl _) ?_; intro bb W2 own2 B2 hb2))
    go_ret
    exact ⟨_, _, _, rfl, own2.zeros.room, own2.zeros.rd, bon BB B2⟩
  · clear hq hqb hv
    go_enter Try.func29, Try.ntmps29
    go_wp2_with (first
      | (go_at_call 34; (with_reducible refine (CV.out _).mono ?_); rintro _ W1 ⟨rfl, B⟩; (replace BB := bon BB B; replace K1 := Rd.on K1 B; replace a0 := cell_below B a0; replace a1 := cell_below B a1; replace a2 := cell_below B a2; replace a3 := cell_below B a3); clear B)
      | (go_at_call 32; (with_reducible refine (CC.out _).mono ?_); rintro _ _ ⟨rfl, rfl⟩)
      | (refine wpList_makeV _ rfl _ _ _ rfl Try.underlying30 biI rfl .i64 .i64 k rfl rfl (by omega) (by simp only [maxLen]; omega) W1.heap.size (Nat.le_refl _) ?_; intro bb W2 own2 B2 hb2))
    go_ret
    exact ⟨_, _, _, rfl, own2.zeros.room, own2.zeros.rd, bon BB B2⟩
  · obtain ⟨q0, q1⟩ := hqb h1 h2
    have g1 : IntKind.i64.wrap (v * s) = q := by rw [hq]; exact IntWalk.i64_in _ (by omega)
    clear hq hqb hv
    go_enter Try.func29, Try.ntmps29
    go_wp2_with (first
      | (go_at_call 34; (with_reducible refine (CV.out _).mono ?_); rintro _ W1 ⟨rfl, B⟩; (replace BB := bon BB B; replace K1 := Rd.on K1 B; replace a0 := cell_below B a0; replace a1 := cell_below B a1; replace a2 := cell_below B a2; replace a3 := cell_below B a3); clear B)
      | (go_at_call 32; (with_reducible refine (CC.out _).mono ?_); rintro _ _ ⟨rfl, rfl⟩)
      | (go_at_call 41; (with_reducible refine (CZ.out _).mono ?_); rintro _ _ ⟨rfl, rfl⟩)
      | (refine wpList_makeV _ rfl _ _ _ rfl Try.underlying30 biI rfl .i64 .i64 k rfl rfl (by omega) (by simp only [maxLen]; omega) W1.heap.size (Nat.le_refl _) ?_; intro bb W2 own2 B2 hb2; replace a1 := cell_below B2 a1; replace a2 := cell_below B2 a2; replace a3 := cell_below B2 a3))
    go_ret
    exact ⟨_, _, _, rfl, own2.zeros.room, own2.zeros.rd, bon BB B2⟩

set_option maxRecDepth 100000 in
theorem rload_no (A : Option Addr) (n c : Nat) (b o s f v : Int) (w : World) (h : ¬ attr b o s f) :
    Calls Try.prog 29 #[.slice A n c, .agg #[.int .i64 b, .int .i64 o, .int .i64 s, .int .i64 f], .int .i64 v] w (GivesRd w .i64 []) := by
  obtain ⟨a0, a1, a2, a3, BB⟩ := box4 w (.int .i64 b) (.int .i64 o) (.int .i64 s) (.int .i64 f) 45
  have cv := fun W => rattr_b b o s f W
  rw [decide_eq_false h] at cv
  have CV := Lib.hid cv
  clear cv h
  go_enter Try.func29, Try.ntmps29
  go_wp2_with (first | (go_at_call 34; refine (CV.out _).mono ?_; rintro _ _ ⟨rfl, B⟩; replace BB := bon BB B; replace a0 := cell_below B a0; replace a1 := cell_below B a1; replace a2 := cell_below B a2; replace a3 := cell_below B a3))
  go_ret
  exact ⟨_, _, _, rfl, Nat.le_refl _, Rd.nil _ _ _ _, BB⟩

theorem rload_b (A : Option Addr) (n c : Nat) (l : List Int) (b o s f v : Int) (w : World) (R : Rd w w.heap.size .u8 A n l) (hn : n ≤ 9223372036854775807) :
    Calls Try.prog 29 #[.slice A n c, .agg #[.int .i64 b, .int .i64 o, .int .i64 s, .int .i64 f], .int .i64 v] w (GivesRd w .i64 (ldv l b o s f v)) := by
  unfold ldv
  rw [R.len]
  by_cases h : attr b o s f
  · rw [if_pos h]
    by_cases hv : 0 ≤ v ∧ v ≤ 65536 ∧ o + v * s + (sizv f : Nat) ≤ n
    · rw [if_pos hv]
      obtain ⟨hb, ho, hs, hk⟩ := id h
      have hq := mul_bds hv.1 hv.2.1 hs.1 hs.2
      have hp : o + v * s = ((o + v * s).toNat : Int) := by omega
      have hf := cps_pos.1 hk
      have hfit : (o + v * s).toNat + sizv f ≤ n := by omega
      rcases (show (f = 1 ∨ f = 2 ∨ f = 3 ∨ f = 4) ∨ f = 5 ∨ (f = 6 ∨ f = 7) ∨ f = 8 by omega) with g | g | g | g
      · exact rload_word A n c l b o s f v _ _ w R hn h ⟨hv.1, hv.2.1⟩ rfl hp hfit g
      · exact rload_unorm A n c l b o s f v _ _ w R hn h ⟨hv.1, hv.2.1⟩ rfl hp hfit g
      · exact rload_half A n c l b o s f v _ _ w R hn h ⟨hv.1, hv.2.1⟩ rfl hp hfit g
      · exact rload_int1 A n c l b o s f v _ _ w R hn h ⟨hv.1, hv.2.1⟩ rfl hp hfit g
    · rw [if_neg hv]
      exact rload_out A n c l b o s f v w R hn h hv
  · rw [if_neg h]
    exact rload_no A n c b o s f v w h

end Go.Proofs.Ytfakmeimideoaaa
