/- The walk of SamplerNearest: the first number that is not zero is number 2. Written by tools/gen/genS15.py. -/
import Derived.Test.YtoipmldbjciinaaS15
namespace Go.Proofs.Ytoipmldbjciinaa
open Go.RowKit Go.Sort
set_option linter.unusedVariables false

set_option maxRecDepth 100000 in
set_option maxHeartbeats 8000000 in
theorem nearest_2_n (A : Option Addr) (n c : Nat) (ts : List Tx) (s : Nat → Int) (u v k l : Int) (w : World) (R : RdI w w.heap.size A n ts) (hn : n ≤ 9223372036854775807) (h : SV s) (hn0 : 0 < n) (lw lh : Int) (hw : (lvl ts 0).w = lw) (hh : (lvl ts 0).h = lh) (h64 : ¬ 64 < lw) (k64 : ¬ 64 < lh) (hcan : can ts s 0) (r : Nat → Int) (hr : slv ts s u v 0 1 = r) (y0 : r 0 = 0) (y1 : r 1 = 0) (y2 : ¬ r 2 = 0) (m0 : ¬ s 0 = 4) (m1 : ¬ s 1 = 4) :
    Calls Try.prog 5 #[.agg #[.slice A n c], .agg (smps s), .agg #[.int .i64 u, .int .i64 v, .int .i64 k, .int .i64 l]] w fun e w' => e = .returned (.bool true) ∧ Below w.heap.size w w' := by
  obtain ⟨B0, a0, S0⟩ := args_ts w A n c s 41 27
  obtain ⟨p0, p1, p2, p3, B1⟩ := box4 ((w.alloc (.cells #[.slice A n c] 41)).alloc (.cells (smps s) 27)) (.int .i64 u) (.int .i64 v) (.int .i64 k) (.int .i64 l) 38
  have z2 : ((w.alloc (.cells #[.slice A n c] 41)).alloc (.cells (smps s) 27)).heap.size = w.heap.size + 2 := by simp
  rw [z2] at p0 p1 p2 p3
  replace a0 := cell_below B1 a0
  replace S0 := smp_below B1 S0
  have BB := bon B0 B1
  have J1 := R.on BB
  have CE := Lib.hid (fun W => sexample_b W)
  have cv := fun W => sval_b s W
  have c1 := fun W R => sslv_b A n c ts s u v 0 1 W R hn
  obtain ⟨bb, off, t, rfl, _, TA, _, ht⟩ := J1.at_ hn0
  obtain ⟨_, e1, e2, _⟩ := TA
  simp only [Nat.zero_mul, Nat.add_zero] at e1 e2
  have hl : lvl ts 0 = t.m := by unfold lvl; simp [List.getD, ht]
  have n0 : ¬ (n : Int) = 0 := by omega
  have n00 : ((n : Int) == 0) = false := by simp; omega
  have n1 : ¬ n = 0 := by omega
  rw [decide_eq_true h] at cv
  have CV := Lib.hid cv
  unfold GivesV at c1
  rw [hr] at c1
  have C1 := Lib.hid c1
  rw [← hl, hw] at e1
  rw [← hl, hh] at e2
  have d1 : decide (64 < lw) = false := decide_eq_false h64
  have d2 : decide (64 < lh) = false := decide_eq_false k64
  clear c1 cv B0 B1 z2 hl ht
  go_enter Try.func5, Try.ntmps5
  obtain ⟨X, Y, hX, hY, hXY0⟩ := nearest_in (u := u) (v := v) hcan (.inl ⟨m0, m1⟩)
  have hXY := fun i => (hXY0 i).trans (congrFun hr i)
  rw [hw] at hX
  rw [hh] at hY
  have C2 := Lib.hid (fun x y W R => stexel_b (some ⟨bb, off, none⟩) n c ts (edg s) x y 0 W R hn)
  unfold GivesV at C2
  have HXY := Lib.hid hXY
  clear hXY0 hXY hr hw hh hcan R hn
  go_wp2_with (first | ((with_reducible refine sloadN smpT S0 ?_ ?_); focus rfl) | (go_at_call 17; (with_reducible refine (C1.out _ J1).mono ?_); rintro _ V1 ⟨rfl, B⟩; replace BB := bon BB B; replace a0 := cell_below B a0; replace S0 := smp_below B S0; replace e1 := cell_below B e1; replace e2 := cell_below B e2; replace J1 := RdI.on J1 B; clear B) | (go_at_call 15; (with_reducible refine (CV.out _).mono ?_); rintro _ V4 ⟨rfl, B⟩; replace BB := bon BB B; replace a0 := cell_below B a0; replace S0 := smp_below B S0; replace e1 := cell_below B e1; replace e2 := cell_below B e2; replace v0 := cell_below B v0; replace v1 := cell_below B v1; replace v2 := cell_below B v2; replace v3 := cell_below B v3; replace J1 := RdI.on J1 B; clear B) | (go_at_call 14; (with_reducible refine (CE.out _).mono ?_); rintro _ V3 ⟨rfl, B⟩; replace BB := bon BB B; replace a0 := cell_below B a0; replace S0 := smp_below B S0; replace e1 := cell_below B e1; replace e2 := cell_below B e2; replace v0 := cell_below B v0; replace v1 := cell_below B v1; replace v2 := cell_below B v2; replace v3 := cell_below B v3; replace J1 := RdI.on J1 B; clear B) | ((with_reducible refine storeN ?_); refine wpList_vset rfl _ _ _ rfl _ _ _ _ rfl rfl (VBox.made _ 0 0 0 0 _) (by kernel_rfl) ?_; intro V2 B2 D3 hD hz; have B : Below V1.heap.size V1 V2 := (box_below V1 _ _).trans B2; replace BB := bon BB B; replace a0 := cell_below B a0; replace S0 := smp_below B S0; replace e1 := cell_below B e1; replace e2 := cell_below B e2; replace J1 := RdI.on J1 B; obtain ⟨v0, v1, v2, v3⟩ := D3.1; clear B B2 D3 hD hz) | ((with_reducible refine storeN ?_); refine wpList_sset rfl _ _ _ rfl s rfl rfl (SBox.made _ (fun _ => 0) _) (by kernel_rfl) ?_; intro V5 E5 B5 _ _) | ((with_reducible refine storeN ?_); refine wpList_sset1 rfl _ _ _ rfl E5 (fun i => if i = 0 then 3 else s i) rfl (fun i hi => if_neg hi) rfl rfl (by omega) (by kernel_rfl) ?_; intro V6 E6 B6 _ _) | ((with_reducible refine storeN ?_); refine wpList_sset1 rfl _ _ _ rfl E6 (edg s) rfl (fun i hi => by unfold edg; simp [hi]) rfl rfl (by omega) (by kernel_rfl) ?_; intro V7 E7 B7 _ _; have B : Below V4.heap.size V4 V7 := (((box_below V4 _ _).trans B5).trans B6).trans B7; replace BB := bon BB B; replace a0 := cell_below B a0; replace S0 := smp_below B S0; replace e1 := cell_below B e1; replace e2 := cell_below B e2; replace v0 := cell_below B v0; replace v1 := cell_below B v1; replace v2 := cell_below B v2; replace v3 := cell_below B v3; replace J1 := RdI.on J1 B; have S1 := E7.1; clear B B5 B6 B7 E5 E6 E7))
  replace v0 : V7.cell? ⟨V1.heap.size, 0, none⟩ = some (.int .i64 (r 0)) := v0.trans (congrArg (fun z => some (Value.int .i64 z)) (by omega))
  replace v1 : V7.cell? ⟨V1.heap.size, 1, none⟩ = some (.int .i64 (r 1)) := v1.trans (congrArg (fun z => some (Value.int .i64 z)) (by omega))
  replace v2 : V7.cell? ⟨V1.heap.size, 2, none⟩ = some (.int .i64 (r 2)) := v2.trans (congrArg (fun z => some (Value.int .i64 z)) (by omega))
  replace v3 : V7.cell? ⟨V1.heap.size, 3, none⟩ = some (.int .i64 (r 3)) := v3.trans (congrArg (fun z => some (Value.int .i64 z)) (by omega))
  clear y0 y1 y2 m0 m1
  generalize V1.heap.size = bv at *
  generalize V4.heap.size = bs at *
  clear S0 p0 p1 p2 p3 C1 CV
  go_loopw [9] (fun i wr => ∃ j : Nat, i = .int .i64 j ∧ j ≤ Y ∧ wr.cell? ⟨w.heap.size, 0, none⟩ = some (.slice (some ⟨bb, off, none⟩) n c) ∧ wr.cell? ⟨bb, off + 1, none⟩ = some (.int .i64 lw) ∧ wr.cell? ⟨bb, off + 2, none⟩ = some (.int .i64 lh) ∧ wr.cell? ⟨bv, 0, none⟩ = some (.int .i64 (r 0)) ∧ wr.cell? ⟨bv, 1, none⟩ = some (.int .i64 (r 1)) ∧ wr.cell? ⟨bv, 2, none⟩ = some (.int .i64 (r 2)) ∧ wr.cell? ⟨bv, 3, none⟩ = some (.int .i64 (r 3)) ∧ (∀ i, i < 12 → wr.cell? ⟨bs, i, none⟩ = some (.int .i64 ((edg s) i))) ∧ RdI wr wr.heap.size (some ⟨bb, off, none⟩) n ts ∧ Below w.heap.size w wr) (fun i _ => Y + 1 - (intOf i).toNat)
  case atStart => exact ⟨0, rfl, by omega, a0, e1, e2, v0, v1, v2, v3, S1, J1, BB⟩
  case round =>
    clear a0 e1 e2 v0 v1 v2 v3 S1 J1 BB
    obtain ⟨j, rfl, hj, a0, e1, e2, v0, v1, v2, v3, S1, J1, BB⟩ := hrel
    have hjh : (j : Int) < lh := by omega
    go_wp2
    go_loopw [10] (fun i wr => ∃ q : Nat, i = .int .i64 q ∧ (q : Int) ≤ lw ∧ (j = Y → q ≤ X) ∧ wr.cell? ⟨w.heap.size, 0, none⟩ = some (.slice (some ⟨bb, off, none⟩) n c) ∧ wr.cell? ⟨bb, off + 1, none⟩ = some (.int .i64 lw) ∧ wr.cell? ⟨bb, off + 2, none⟩ = some (.int .i64 lh) ∧ wr.cell? ⟨bv, 0, none⟩ = some (.int .i64 (r 0)) ∧ wr.cell? ⟨bv, 1, none⟩ = some (.int .i64 (r 1)) ∧ wr.cell? ⟨bv, 2, none⟩ = some (.int .i64 (r 2)) ∧ wr.cell? ⟨bv, 3, none⟩ = some (.int .i64 (r 3)) ∧ (∀ i, i < 12 → wr.cell? ⟨bs, i, none⟩ = some (.int .i64 ((edg s) i))) ∧ RdI wr wr.heap.size (some ⟨bb, off, none⟩) n ts ∧ Below w.heap.size w wr) (fun i _ => lw.toNat - (intOf i).toNat)
    case atStart => exact ⟨0, rfl, by omega, fun _ => by omega, a0, e1, e2, v0, v1, v2, v3, S1, J1, BB⟩
    case round =>
      clear a0 e1 e2 v0 v1 v2 v3 S1 J1 BB
      obtain ⟨q, rfl, hq, hqX, a0, e1, e2, v0, v1, v2, v3, S1, J1, BB⟩ := hrel
      by_cases hql : (q : Int) < lw
      · obtain ⟨z, hz⟩ : ∃ z, stx ts (edg s) q j 0 = z := ⟨_, rfl⟩
        have c3 := C2.out (q : Int) (j : Int)
        rw [hz] at c3
        have C3 := Lib.hid c3
        clear c3
        by_cases hall : ∀ i, i < 4 → z i = r i
        · rw [hall 0 (by omega), hall 1 (by omega), hall 2 (by omega), hall 3 (by omega)] at C3
          clear hall hz hqX C2 HXY
          go_wp2
          have k_a0 := cell_regrown a0
          have k_e1 := cell_regrown e1
          have k_e2 := cell_regrown e2
          have k_v0 := cell_regrown v0
          have k_v1 := cell_regrown v1
          have k_v2 := cell_regrown v2
          have k_v3 := cell_regrown v3
          have k_S1 := smp_regrown S1
          refine wp_region_quiet_below (by kernel_rfl) (by kernel_rfl) ?_
          repeat (first | (go_big_quiet_want; refine quiet_sload _ _ rfl smpT (fun W hW => smp_class S1 hW) rfl ?_; go_simp; go_big_quiet_on) | (go_big_quiet_want; refine quiet_bload _ _ rfl bordT (fun W hW => smp_class S1 hW) rfl ?_; go_simp; go_big_quiet_on) | go_big_quiet_step ((first | (go_at_call 18; with_reducible exact Calls.regrown_of (C3.out _ (J1.on (below_regrown _ _ _)))))) | quiet_step ((first | (go_at_call 18; with_reducible exact Calls.regrown_of (C3.out _ (J1.on (below_regrown _ _ _)))))))
          refine wpQuiet_nil ?_
          intro W hw'
          have B := below_regrown' hw'
          clear hw' k_a0 k_e1 k_e2 k_v0 k_v1 k_v2 k_v3 k_S1
          replace BB := bon BB B
          replace a0 := cell_below B a0
          replace e1 := cell_below B e1
          replace e2 := cell_below B e2
          replace v0 := cell_below B v0
          replace v1 := cell_below B v1
          replace v2 := cell_below B v2
          replace v3 := cell_below B v3
          replace S1 := smp_below B S1
          replace J1 := RdI.on J1 B
          go_wp2_with (go_at_call 14; (with_reducible refine (CE.out _).mono ?_); rintro _ V3 ⟨rfl, B⟩; (replace BB := bon BB B; replace a0 := cell_below B a0; replace e1 := cell_below B e1; replace e2 := cell_below B e2; replace v0 := cell_below B v0; replace v1 := cell_below B v1; replace v2 := cell_below B v2; replace v3 := cell_below B v3; replace S1 := smp_below B S1; replace J1 := RdI.on J1 B); clear B)
          go_ret
          exact ⟨rfl, BB⟩
        · have hne : j = Y → q < X := by
            intro hy
            rcases Nat.lt_or_ge q X with h | h
            · exact h
            · exfalso
              obtain rfl : q = X := by have := hqX hy; omega
              subst hy
              exact hall fun i _ => by rw [← hz]; exact HXY.out i
          have hd : ¬ z 0 = r 0 ∨ (z 0 = r 0 ∧ ¬ z 1 = r 1) ∨ (z 0 = r 0 ∧ z 1 = r 1 ∧ ¬ z 2 = r 2) ∨ (z 0 = r 0 ∧ z 1 = r 1 ∧ z 2 = r 2 ∧ ¬ z 3 = r 3) := by
            by_cases k0 : z 0 = r 0
            · by_cases k1 : z 1 = r 1
              · by_cases k2 : z 2 = r 2
                · by_cases k3 : z 3 = r 3
                  · exact absurd (fun i (hi : i < 4) => (match i, hi with | 0, _ => k0 | 1, _ => k1 | 2, _ => k2 | 3, _ => k3 : z i = r i)) hall
                  · exact .inr (.inr (.inr ⟨k0, k1, k2, k3⟩))
                · exact .inr (.inr (.inl ⟨k0, k1, k2⟩))
              · exact .inr (.inl ⟨k0, k1⟩)
            · exact .inl k0
          clear hall hz hqX C2 HXY
          rcases hd with k0 | ⟨k0, k1⟩ | ⟨k0, k1, k2⟩ | ⟨k0, k1, k2, k3⟩
          · skip
            go_wp2
            have k_a0 := cell_regrown a0
            have k_e1 := cell_regrown e1
            have k_e2 := cell_regrown e2
            have k_v0 := cell_regrown v0
            have k_v1 := cell_regrown v1
            have k_v2 := cell_regrown v2
            have k_v3 := cell_regrown v3
            have k_S1 := smp_regrown S1
            refine wp_region_quiet_below (by kernel_rfl) (by kernel_rfl) ?_
            repeat (first | (go_big_quiet_want; refine quiet_sload _ _ rfl smpT (fun W hW => smp_class S1 hW) rfl ?_; go_simp; go_big_quiet_on) | (go_big_quiet_want; refine quiet_bload _ _ rfl bordT (fun W hW => smp_class S1 hW) rfl ?_; go_simp; go_big_quiet_on) | go_big_quiet_step ((first | (go_at_call 18; with_reducible exact Calls.regrown_of (C3.out _ (J1.on (below_regrown _ _ _)))))) | quiet_step ((first | (go_at_call 18; with_reducible exact Calls.regrown_of (C3.out _ (J1.on (below_regrown _ _ _)))))))
            refine wpQuiet_nil ?_
            intro W hw'
            have B := below_regrown' hw'
            clear hw' k_a0 k_e1 k_e2 k_v0 k_v1 k_v2 k_v3 k_S1
            replace BB := bon BB B
            replace a0 := cell_below B a0
            replace e1 := cell_below B e1
            replace e2 := cell_below B e2
            replace v0 := cell_below B v0
            replace v1 := cell_below B v1
            replace v2 := cell_below B v2
            replace v3 := cell_below B v3
            replace S1 := smp_below B S1
            replace J1 := RdI.on J1 B
            go_wp2
            go_roundw
            case rel => exact ⟨q + 1, by go_num, by omega, fun h => by have := hne h; omega, a0, e1, e2, v0, v1, v2, v3, S1, J1, BB⟩
            case measure => simp [intOf]; omega
          · rw [k0] at C3
            go_wp2
            have k_a0 := cell_regrown a0
            have k_e1 := cell_regrown e1
            have k_e2 := cell_regrown e2
            have k_v0 := cell_regrown v0
            have k_v1 := cell_regrown v1
            have k_v2 := cell_regrown v2
            have k_v3 := cell_regrown v3
            have k_S1 := smp_regrown S1
            refine wp_region_quiet_below (by kernel_rfl) (by kernel_rfl) ?_
            repeat (first | (go_big_quiet_want; refine quiet_sload _ _ rfl smpT (fun W hW => smp_class S1 hW) rfl ?_; go_simp; go_big_quiet_on) | (go_big_quiet_want; refine quiet_bload _ _ rfl bordT (fun W hW => smp_class S1 hW) rfl ?_; go_simp; go_big_quiet_on) | go_big_quiet_step ((first | (go_at_call 18; with_reducible exact Calls.regrown_of (C3.out _ (J1.on (below_regrown _ _ _)))))) | quiet_step ((first | (go_at_call 18; with_reducible exact Calls.regrown_of (C3.out _ (J1.on (below_regrown _ _ _)))))))
            refine wpQuiet_nil ?_
            intro W hw'
            have B := below_regrown' hw'
            clear hw' k_a0 k_e1 k_e2 k_v0 k_v1 k_v2 k_v3 k_S1
            replace BB := bon BB B
            replace a0 := cell_below B a0
            replace e1 := cell_below B e1
            replace e2 := cell_below B e2
            replace v0 := cell_below B v0
            replace v1 := cell_below B v1
            replace v2 := cell_below B v2
            replace v3 := cell_below B v3
            replace S1 := smp_below B S1
            replace J1 := RdI.on J1 B
            go_wp2
            go_roundw
            case rel => exact ⟨q + 1, by go_num, by omega, fun h => by have := hne h; omega, a0, e1, e2, v0, v1, v2, v3, S1, J1, BB⟩
            case measure => simp [intOf]; omega
          · rw [k0, k1] at C3
            go_wp2
            have k_a0 := cell_regrown a0
            have k_e1 := cell_regrown e1
            have k_e2 := cell_regrown e2
            have k_v0 := cell_regrown v0
            have k_v1 := cell_regrown v1
            have k_v2 := cell_regrown v2
            have k_v3 := cell_regrown v3
            have k_S1 := smp_regrown S1
            refine wp_region_quiet_below (by kernel_rfl) (by kernel_rfl) ?_
            repeat (first | (go_big_quiet_want; refine quiet_sload _ _ rfl smpT (fun W hW => smp_class S1 hW) rfl ?_; go_simp; go_big_quiet_on) | (go_big_quiet_want; refine quiet_bload _ _ rfl bordT (fun W hW => smp_class S1 hW) rfl ?_; go_simp; go_big_quiet_on) | go_big_quiet_step ((first | (go_at_call 18; with_reducible exact Calls.regrown_of (C3.out _ (J1.on (below_regrown _ _ _)))))) | quiet_step ((first | (go_at_call 18; with_reducible exact Calls.regrown_of (C3.out _ (J1.on (below_regrown _ _ _)))))))
            refine wpQuiet_nil ?_
            intro W hw'
            have B := below_regrown' hw'
            clear hw' k_a0 k_e1 k_e2 k_v0 k_v1 k_v2 k_v3 k_S1
            replace BB := bon BB B
            replace a0 := cell_below B a0
            replace e1 := cell_below B e1
            replace e2 := cell_below B e2
            replace v0 := cell_below B v0
            replace v1 := cell_below B v1
            replace v2 := cell_below B v2
            replace v3 := cell_below B v3
            replace S1 := smp_below B S1
            replace J1 := RdI.on J1 B
            go_wp2
            go_roundw
            case rel => exact ⟨q + 1, by go_num, by omega, fun h => by have := hne h; omega, a0, e1, e2, v0, v1, v2, v3, S1, J1, BB⟩
            case measure => simp [intOf]; omega
          · rw [k0, k1, k2] at C3
            go_wp2
            have k_a0 := cell_regrown a0
            have k_e1 := cell_regrown e1
            have k_e2 := cell_regrown e2
            have k_v0 := cell_regrown v0
            have k_v1 := cell_regrown v1
            have k_v2 := cell_regrown v2
            have k_v3 := cell_regrown v3
            have k_S1 := smp_regrown S1
            refine wp_region_quiet_below (by kernel_rfl) (by kernel_rfl) ?_
            repeat (first | (go_big_quiet_want; refine quiet_sload _ _ rfl smpT (fun W hW => smp_class S1 hW) rfl ?_; go_simp; go_big_quiet_on) | (go_big_quiet_want; refine quiet_bload _ _ rfl bordT (fun W hW => smp_class S1 hW) rfl ?_; go_simp; go_big_quiet_on) | go_big_quiet_step ((first | (go_at_call 18; with_reducible exact Calls.regrown_of (C3.out _ (J1.on (below_regrown _ _ _)))))) | quiet_step ((first | (go_at_call 18; with_reducible exact Calls.regrown_of (C3.out _ (J1.on (below_regrown _ _ _)))))))
            refine wpQuiet_nil ?_
            intro W hw'
            have B := below_regrown' hw'
            clear hw' k_a0 k_e1 k_e2 k_v0 k_v1 k_v2 k_v3 k_S1
            replace BB := bon BB B
            replace a0 := cell_below B a0
            replace e1 := cell_below B e1
            replace e2 := cell_below B e2
            replace v0 := cell_below B v0
            replace v1 := cell_below B v1
            replace v2 := cell_below B v2
            replace v3 := cell_below B v3
            replace S1 := smp_below B S1
            replace J1 := RdI.on J1 B
            go_wp2
            go_roundw
            case rel => exact ⟨q + 1, by go_num, by omega, fun h => by have := hne h; omega, a0, e1, e2, v0, v1, v2, v3, S1, J1, BB⟩
            case measure => simp [intOf]; omega
      · have hjY : j < Y := by
          rcases Nat.lt_or_ge j Y with h | h
          · exact h
          · exfalso
            have := hqX (by omega)
            omega
        go_wp2
        go_roundw
        case rel => exact ⟨j + 1, by go_num, by omega, a0, e1, e2, v0, v1, v2, v3, S1, J1, BB⟩
        case measure => simp [intOf]; omega

set_option maxRecDepth 100000 in
set_option maxHeartbeats 8000000 in
theorem nearest_2_ae (A : Option Addr) (n c : Nat) (ts : List Tx) (s : Nat → Int) (u v k l : Int) (w : World) (R : RdI w w.heap.size A n ts) (hn : n ≤ 9223372036854775807) (h : SV s) (hn0 : 0 < n) (lw lh : Int) (hw : (lvl ts 0).w = lw) (hh : (lvl ts 0).h = lh) (h64 : ¬ 64 < lw) (k64 : ¬ 64 < lh) (r : Nat → Int) (hr : slv ts s u v 0 1 = r) (y0 : r 0 = 0) (y1 : r 1 = 0) (y2 : ¬ r 2 = 0) (m0 : s 0 = 4) (x0 : r 0 = s 5) (x1 : r 1 = s 6) (x2 : r 2 = s 7) (x3 : r 3 = s 8) :
    Calls Try.prog 5 #[.agg #[.slice A n c], .agg (smps s), .agg #[.int .i64 u, .int .i64 v, .int .i64 k, .int .i64 l]] w fun e w' => e = .returned (.bool true) ∧ Below w.heap.size w w' := by
  obtain ⟨B0, a0, S0⟩ := args_ts w A n c s 41 27
  obtain ⟨p0, p1, p2, p3, B1⟩ := box4 ((w.alloc (.cells #[.slice A n c] 41)).alloc (.cells (smps s) 27)) (.int .i64 u) (.int .i64 v) (.int .i64 k) (.int .i64 l) 38
  have z2 : ((w.alloc (.cells #[.slice A n c] 41)).alloc (.cells (smps s) 27)).heap.size = w.heap.size + 2 := by simp
  rw [z2] at p0 p1 p2 p3
  replace a0 := cell_below B1 a0
  replace S0 := smp_below B1 S0
  have BB := bon B0 B1
  have J1 := R.on BB
  have CE := Lib.hid (fun W => sexample_b W)
  have cv := fun W => sval_b s W
  have c1 := fun W R => sslv_b A n c ts s u v 0 1 W R hn
  obtain ⟨bb, off, t, rfl, _, TA, _, ht⟩ := J1.at_ hn0
  obtain ⟨_, e1, e2, _⟩ := TA
  simp only [Nat.zero_mul, Nat.add_zero] at e1 e2
  have hl : lvl ts 0 = t.m := by unfold lvl; simp [List.getD, ht]
  have n0 : ¬ (n : Int) = 0 := by omega
  have n00 : ((n : Int) == 0) = false := by simp; omega
  have n1 : ¬ n = 0 := by omega
  rw [decide_eq_true h] at cv
  have CV := Lib.hid cv
  unfold GivesV at c1
  rw [hr] at c1
  have C1 := Lib.hid c1
  rw [← hl, hw] at e1
  rw [← hl, hh] at e2
  have d1 : decide (64 < lw) = false := decide_eq_false h64
  have d2 : decide (64 < lh) = false := decide_eq_false k64
  clear c1 cv B0 B1 z2 hl ht
  go_enter Try.func5, Try.ntmps5
  clear hr hw hh R hn
  go_wp2_with (first | ((with_reducible refine sloadN smpT S0 ?_ ?_); focus rfl) | (go_at_call 17; (with_reducible refine (C1.out _ J1).mono ?_); rintro _ V1 ⟨rfl, B⟩; replace BB := bon BB B; replace a0 := cell_below B a0; replace S0 := smp_below B S0; replace e1 := cell_below B e1; replace e2 := cell_below B e2; replace J1 := RdI.on J1 B; clear B) | (go_at_call 15; (with_reducible refine (CV.out _).mono ?_); rintro _ V4 ⟨rfl, B⟩; replace BB := bon BB B; replace a0 := cell_below B a0; replace S0 := smp_below B S0; replace e1 := cell_below B e1; replace e2 := cell_below B e2; replace v0 := cell_below B v0; replace v1 := cell_below B v1; replace v2 := cell_below B v2; replace v3 := cell_below B v3; replace J1 := RdI.on J1 B; clear B) | (go_at_call 14; (with_reducible refine (CE.out _).mono ?_); rintro _ V3 ⟨rfl, B⟩; replace BB := bon BB B; replace a0 := cell_below B a0; replace S0 := smp_below B S0; replace e1 := cell_below B e1; replace e2 := cell_below B e2; replace v0 := cell_below B v0; replace v1 := cell_below B v1; replace v2 := cell_below B v2; replace v3 := cell_below B v3; replace J1 := RdI.on J1 B; clear B) | ((with_reducible refine storeN ?_); refine wpList_vset rfl _ _ _ rfl _ _ _ _ rfl rfl (VBox.made _ 0 0 0 0 _) (by kernel_rfl) ?_; intro V2 B2 D3 hD hz; have B : Below V1.heap.size V1 V2 := (box_below V1 _ _).trans B2; replace BB := bon BB B; replace a0 := cell_below B a0; replace S0 := smp_below B S0; replace e1 := cell_below B e1; replace e2 := cell_below B e2; replace J1 := RdI.on J1 B; obtain ⟨v0, v1, v2, v3⟩ := D3.1; clear B B2 D3 hD hz) | ((with_reducible refine storeN ?_); refine wpList_sset rfl _ _ _ rfl s rfl rfl (SBox.made _ (fun _ => 0) _) (by kernel_rfl) ?_; intro V5 E5 B5 _ _) | ((with_reducible refine storeN ?_); refine wpList_sset1 rfl _ _ _ rfl E5 (fun i => if i = 0 then 3 else s i) rfl (fun i hi => if_neg hi) rfl rfl (by omega) (by kernel_rfl) ?_; intro V6 E6 B6 _ _) | ((with_reducible refine storeN ?_); refine wpList_sset1 rfl _ _ _ rfl E6 (edg s) rfl (fun i hi => by unfold edg; simp [hi]) rfl rfl (by omega) (by kernel_rfl) ?_; intro V7 E7 B7 _ _; have B : Below V4.heap.size V4 V7 := (((box_below V4 _ _).trans B5).trans B6).trans B7; replace BB := bon BB B; replace a0 := cell_below B a0; replace S0 := smp_below B S0; replace e1 := cell_below B e1; replace e2 := cell_below B e2; replace v0 := cell_below B v0; replace v1 := cell_below B v1; replace v2 := cell_below B v2; replace v3 := cell_below B v3; replace J1 := RdI.on J1 B; have S1 := E7.1; clear B B5 B6 B7 E5 E6 E7))
  go_ret
  exact ⟨rfl, BB⟩

set_option maxRecDepth 100000 in
set_option maxHeartbeats 8000000 in
theorem nearest_2_a0 (A : Option Addr) (n c : Nat) (ts : List Tx) (s : Nat → Int) (u v k l : Int) (w : World) (R : RdI w w.heap.size A n ts) (hn : n ≤ 9223372036854775807) (h : SV s) (hn0 : 0 < n) (lw lh : Int) (hw : (lvl ts 0).w = lw) (hh : (lvl ts 0).h = lh) (h64 : ¬ 64 < lw) (k64 : ¬ 64 < lh) (hcan : can ts s 0) (r : Nat → Int) (hr : slv ts s u v 0 1 = r) (y0 : r 0 = 0) (y1 : r 1 = 0) (y2 : ¬ r 2 = 0) (m0 : s 0 = 4) (x0 : ¬ r 0 = s 5) :
    Calls Try.prog 5 #[.agg #[.slice A n c], .agg (smps s), .agg #[.int .i64 u, .int .i64 v, .int .i64 k, .int .i64 l]] w fun e w' => e = .returned (.bool true) ∧ Below w.heap.size w w' := by
  obtain ⟨B0, a0, S0⟩ := args_ts w A n c s 41 27
  obtain ⟨p0, p1, p2, p3, B1⟩ := box4 ((w.alloc (.cells #[.slice A n c] 41)).alloc (.cells (smps s) 27)) (.int .i64 u) (.int .i64 v) (.int .i64 k) (.int .i64 l) 38
  have z2 : ((w.alloc (.cells #[.slice A n c] 41)).alloc (.cells (smps s) 27)).heap.size = w.heap.size + 2 := by simp
  rw [z2] at p0 p1 p2 p3
  replace a0 := cell_below B1 a0
  replace S0 := smp_below B1 S0
  have BB := bon B0 B1
  have J1 := R.on BB
  have CE := Lib.hid (fun W => sexample_b W)
  have cv := fun W => sval_b s W
  have c1 := fun W R => sslv_b A n c ts s u v 0 1 W R hn
  obtain ⟨bb, off, t, rfl, _, TA, _, ht⟩ := J1.at_ hn0
  obtain ⟨_, e1, e2, _⟩ := TA
  simp only [Nat.zero_mul, Nat.add_zero] at e1 e2
  have hl : lvl ts 0 = t.m := by unfold lvl; simp [List.getD, ht]
  have n0 : ¬ (n : Int) = 0 := by omega
  have n00 : ((n : Int) == 0) = false := by simp; omega
  have n1 : ¬ n = 0 := by omega
  rw [decide_eq_true h] at cv
  have CV := Lib.hid cv
  unfold GivesV at c1
  rw [hr] at c1
  have C1 := Lib.hid c1
  rw [← hl, hw] at e1
  rw [← hl, hh] at e2
  have d1 : decide (64 < lw) = false := decide_eq_false h64
  have d2 : decide (64 < lh) = false := decide_eq_false k64
  clear c1 cv B0 B1 z2 hl ht
  go_enter Try.func5, Try.ntmps5
  obtain ⟨X, Y, hX, hY, hXY0⟩ := nearest_in (u := u) (v := v) hcan (.inr fun q => x0 ((congrFun hr 0).symm.trans (q 0 (by omega))))
  have hXY := fun i => (hXY0 i).trans (congrFun hr i)
  rw [hw] at hX
  rw [hh] at hY
  have C2 := Lib.hid (fun x y W R => stexel_b (some ⟨bb, off, none⟩) n c ts (edg s) x y 0 W R hn)
  unfold GivesV at C2
  have HXY := Lib.hid hXY
  clear hXY0 hXY hr hw hh hcan R hn
  go_wp2_with (first | ((with_reducible refine sloadN smpT S0 ?_ ?_); focus rfl) | (go_at_call 17; (with_reducible refine (C1.out _ J1).mono ?_); rintro _ V1 ⟨rfl, B⟩; replace BB := bon BB B; replace a0 := cell_below B a0; replace S0 := smp_below B S0; replace e1 := cell_below B e1; replace e2 := cell_below B e2; replace J1 := RdI.on J1 B; clear B) | (go_at_call 15; (with_reducible refine (CV.out _).mono ?_); rintro _ V4 ⟨rfl, B⟩; replace BB := bon BB B; replace a0 := cell_below B a0; replace S0 := smp_below B S0; replace e1 := cell_below B e1; replace e2 := cell_below B e2; replace v0 := cell_below B v0; replace v1 := cell_below B v1; replace v2 := cell_below B v2; replace v3 := cell_below B v3; replace J1 := RdI.on J1 B; clear B) | (go_at_call 14; (with_reducible refine (CE.out _).mono ?_); rintro _ V3 ⟨rfl, B⟩; replace BB := bon BB B; replace a0 := cell_below B a0; replace S0 := smp_below B S0; replace e1 := cell_below B e1; replace e2 := cell_below B e2; replace v0 := cell_below B v0; replace v1 := cell_below B v1; replace v2 := cell_below B v2; replace v3 := cell_below B v3; replace J1 := RdI.on J1 B; clear B) | ((with_reducible refine storeN ?_); refine wpList_vset rfl _ _ _ rfl _ _ _ _ rfl rfl (VBox.made _ 0 0 0 0 _) (by kernel_rfl) ?_; intro V2 B2 D3 hD hz; have B : Below V1.heap.size V1 V2 := (box_below V1 _ _).trans B2; replace BB := bon BB B; replace a0 := cell_below B a0; replace S0 := smp_below B S0; replace e1 := cell_below B e1; replace e2 := cell_below B e2; replace J1 := RdI.on J1 B; obtain ⟨v0, v1, v2, v3⟩ := D3.1; clear B B2 D3 hD hz) | ((with_reducible refine storeN ?_); refine wpList_sset rfl _ _ _ rfl s rfl rfl (SBox.made _ (fun _ => 0) _) (by kernel_rfl) ?_; intro V5 E5 B5 _ _) | ((with_reducible refine storeN ?_); refine wpList_sset1 rfl _ _ _ rfl E5 (fun i => if i = 0 then 3 else s i) rfl (fun i hi => if_neg hi) rfl rfl (by omega) (by kernel_rfl) ?_; intro V6 E6 B6 _ _) | ((with_reducible refine storeN ?_); refine wpList_sset1 rfl _ _ _ rfl E6 (edg s) rfl (fun i hi => by unfold edg; simp [hi]) rfl rfl (by omega) (by kernel_rfl) ?_; intro V7 E7 B7 _ _; have B : Below V4.heap.size V4 V7 := (((box_below V4 _ _).trans B5).trans B6).trans B7; replace BB := bon BB B; replace a0 := cell_below B a0; replace S0 := smp_below B S0; replace e1 := cell_below B e1; replace e2 := cell_below B e2; replace v0 := cell_below B v0; replace v1 := cell_below B v1; replace v2 := cell_below B v2; replace v3 := cell_below B v3; replace J1 := RdI.on J1 B; have S1 := E7.1; clear B B5 B6 B7 E5 E6 E7))
  replace v0 : V7.cell? ⟨V1.heap.size, 0, none⟩ = some (.int .i64 (r 0)) := v0.trans (congrArg (fun z => some (Value.int .i64 z)) (by omega))
  replace v1 : V7.cell? ⟨V1.heap.size, 1, none⟩ = some (.int .i64 (r 1)) := v1.trans (congrArg (fun z => some (Value.int .i64 z)) (by omega))
  replace v2 : V7.cell? ⟨V1.heap.size, 2, none⟩ = some (.int .i64 (r 2)) := v2.trans (congrArg (fun z => some (Value.int .i64 z)) (by omega))
  replace v3 : V7.cell? ⟨V1.heap.size, 3, none⟩ = some (.int .i64 (r 3)) := v3.trans (congrArg (fun z => some (Value.int .i64 z)) (by omega))
  clear y0 y1 y2 m0 x0
  generalize V1.heap.size = bv at *
  generalize V4.heap.size = bs at *
  clear S0 p0 p1 p2 p3 C1 CV
  go_loopw [9] (fun i wr => ∃ j : Nat, i = .int .i64 j ∧ j ≤ Y ∧ wr.cell? ⟨w.heap.size, 0, none⟩ = some (.slice (some ⟨bb, off, none⟩) n c) ∧ wr.cell? ⟨bb, off + 1, none⟩ = some (.int .i64 lw) ∧ wr.cell? ⟨bb, off + 2, none⟩ = some (.int .i64 lh) ∧ wr.cell? ⟨bv, 0, none⟩ = some (.int .i64 (r 0)) ∧ wr.cell? ⟨bv, 1, none⟩ = some (.int .i64 (r 1)) ∧ wr.cell? ⟨bv, 2, none⟩ = some (.int .i64 (r 2)) ∧ wr.cell? ⟨bv, 3, none⟩ = some (.int .i64 (r 3)) ∧ (∀ i, i < 12 → wr.cell? ⟨bs, i, none⟩ = some (.int .i64 ((edg s) i))) ∧ RdI wr wr.heap.size (some ⟨bb, off, none⟩) n ts ∧ Below w.heap.size w wr) (fun i _ => Y + 1 - (intOf i).toNat)
  case atStart => exact ⟨0, rfl, by omega, a0, e1, e2, v0, v1, v2, v3, S1, J1, BB⟩
  case round =>
    clear a0 e1 e2 v0 v1 v2 v3 S1 J1 BB
    obtain ⟨j, rfl, hj, a0, e1, e2, v0, v1, v2, v3, S1, J1, BB⟩ := hrel
    have hjh : (j : Int) < lh := by omega
    go_wp2
    go_loopw [10] (fun i wr => ∃ q : Nat, i = .int .i64 q ∧ (q : Int) ≤ lw ∧ (j = Y → q ≤ X) ∧ wr.cell? ⟨w.heap.size, 0, none⟩ = some (.slice (some ⟨bb, off, none⟩) n c) ∧ wr.cell? ⟨bb, off + 1, none⟩ = some (.int .i64 lw) ∧ wr.cell? ⟨bb, off + 2, none⟩ = some (.int .i64 lh) ∧ wr.cell? ⟨bv, 0, none⟩ = some (.int .i64 (r 0)) ∧ wr.cell? ⟨bv, 1, none⟩ = some (.int .i64 (r 1)) ∧ wr.cell? ⟨bv, 2, none⟩ = some (.int .i64 (r 2)) ∧ wr.cell? ⟨bv, 3, none⟩ = some (.int .i64 (r 3)) ∧ (∀ i, i < 12 → wr.cell? ⟨bs, i, none⟩ = some (.int .i64 ((edg s) i))) ∧ RdI wr wr.heap.size (some ⟨bb, off, none⟩) n ts ∧ Below w.heap.size w wr) (fun i _ => lw.toNat - (intOf i).toNat)
    case atStart => exact ⟨0, rfl, by omega, fun _ => by omega, a0, e1, e2, v0, v1, v2, v3, S1, J1, BB⟩
    case round =>
      clear a0 e1 e2 v0 v1 v2 v3 S1 J1 BB
      obtain ⟨q, rfl, hq, hqX, a0, e1, e2, v0, v1, v2, v3, S1, J1, BB⟩ := hrel
      by_cases hql : (q : Int) < lw
      · obtain ⟨z, hz⟩ : ∃ z, stx ts (edg s) q j 0 = z := ⟨_, rfl⟩
        have c3 := C2.out (q : Int) (j : Int)
        rw [hz] at c3
        have C3 := Lib.hid c3
        clear c3
        by_cases hall : ∀ i, i < 4 → z i = r i
        · rw [hall 0 (by omega), hall 1 (by omega), hall 2 (by omega), hall 3 (by omega)] at C3
          clear hall hz hqX C2 HXY
          go_wp2
          have k_a0 := cell_regrown a0
          have k_e1 := cell_regrown e1
          have k_e2 := cell_regrown e2
          have k_v0 := cell_regrown v0
          have k_v1 := cell_regrown v1
          have k_v2 := cell_regrown v2
          have k_v3 := cell_regrown v3
          have k_S1 := smp_regrown S1
          refine wp_region_quiet_below (by kernel_rfl) (by kernel_rfl) ?_
          repeat (first | (go_big_quiet_want; refine quiet_sload _ _ rfl smpT (fun W hW => smp_class S1 hW) rfl ?_; go_simp; go_big_quiet_on) | (go_big_quiet_want; refine quiet_bload _ _ rfl bordT (fun W hW => smp_class S1 hW) rfl ?_; go_simp; go_big_quiet_on) | go_big_quiet_step ((first | (go_at_call 18; with_reducible exact Calls.regrown_of (C3.out _ (J1.on (below_regrown _ _ _)))))) | quiet_step ((first | (go_at_call 18; with_reducible exact Calls.regrown_of (C3.out _ (J1.on (below_regrown _ _ _)))))))
          refine wpQuiet_nil ?_
          intro W hw'
          have B := below_regrown' hw'
          clear hw' k_a0 k_e1 k_e2 k_v0 k_v1 k_v2 k_v3 k_S1
          replace BB := bon BB B
          replace a0 := cell_below B a0
          replace e1 := cell_below B e1
          replace e2 := cell_below B e2
          replace v0 := cell_below B v0
          replace v1 := cell_below B v1
          replace v2 := cell_below B v2
          replace v3 := cell_below B v3
          replace S1 := smp_below B S1
          replace J1 := RdI.on J1 B
          go_wp2_with (go_at_call 14; (with_reducible refine (CE.out _).mono ?_); rintro _ V3 ⟨rfl, B⟩; (replace BB := bon BB B; replace a0 := cell_below B a0; replace e1 := cell_below B e1; replace e2 := cell_below B e2; replace v0 := cell_below B v0; replace v1 := cell_below B v1; replace v2 := cell_below B v2; replace v3 := cell_below B v3; replace S1 := smp_below B S1; replace J1 := RdI.on J1 B); clear B)
          go_ret
          exact ⟨rfl, BB⟩
        · have hne : j = Y → q < X := by
            intro hy
            rcases Nat.lt_or_ge q X with h | h
            · exact h
            · exfalso
              obtain rfl : q = X := by have := hqX hy; omega
              subst hy
              exact hall fun i _ => by rw [← hz]; exact HXY.out i
          have hd : ¬ z 0 = r 0 ∨ (z 0 = r 0 ∧ ¬ z 1 = r 1) ∨ (z 0 = r 0 ∧ z 1 = r 1 ∧ ¬ z 2 = r 2) ∨ (z 0 = r 0 ∧ z 1 = r 1 ∧ z 2 = r 2 ∧ ¬ z 3 = r 3) := by
            by_cases k0 : z 0 = r 0
            · by_cases k1 : z 1 = r 1
              · by_cases k2 : z 2 = r 2
                · by_cases k3 : z 3 = r 3
                  · exact absurd (fun i (hi : i < 4) => (match i, hi with | 0, _ => k0 | 1, _ => k1 | 2, _ => k2 | 3, _ => k3 : z i = r i)) hall
                  · exact .inr (.inr (.inr ⟨k0, k1, k2, k3⟩))
                · exact .inr (.inr (.inl ⟨k0, k1, k2⟩))
              · exact .inr (.inl ⟨k0, k1⟩)
            · exact .inl k0
          clear hall hz hqX C2 HXY
          rcases hd with k0 | ⟨k0, k1⟩ | ⟨k0, k1, k2⟩ | ⟨k0, k1, k2, k3⟩
          · skip
            go_wp2
            have k_a0 := cell_regrown a0
            have k_e1 := cell_regrown e1
            have k_e2 := cell_regrown e2
            have k_v0 := cell_regrown v0
            have k_v1 := cell_regrown v1
            have k_v2 := cell_regrown v2
            have k_v3 := cell_regrown v3
            have k_S1 := smp_regrown S1
            refine wp_region_quiet_below (by kernel_rfl) (by kernel_rfl) ?_
            repeat (first | (go_big_quiet_want; refine quiet_sload _ _ rfl smpT (fun W hW => smp_class S1 hW) rfl ?_; go_simp; go_big_quiet_on) | (go_big_quiet_want; refine quiet_bload _ _ rfl bordT (fun W hW => smp_class S1 hW) rfl ?_; go_simp; go_big_quiet_on) | go_big_quiet_step ((first | (go_at_call 18; with_reducible exact Calls.regrown_of (C3.out _ (J1.on (below_regrown _ _ _)))))) | quiet_step ((first | (go_at_call 18; with_reducible exact Calls.regrown_of (C3.out _ (J1.on (below_regrown _ _ _)))))))
            refine wpQuiet_nil ?_
            intro W hw'
            have B := below_regrown' hw'
            clear hw' k_a0 k_e1 k_e2 k_v0 k_v1 k_v2 k_v3 k_S1
            replace BB := bon BB B
            replace a0 := cell_below B a0
            replace e1 := cell_below B e1
            replace e2 := cell_below B e2
            replace v0 := cell_below B v0
            replace v1 := cell_below B v1
            replace v2 := cell_below B v2
            replace v3 := cell_below B v3
            replace S1 := smp_below B S1
            replace J1 := RdI.on J1 B
            go_wp2
            go_roundw
            case rel => exact ⟨q + 1, by go_num, by omega, fun h => by have := hne h; omega, a0, e1, e2, v0, v1, v2, v3, S1, J1, BB⟩
            case measure => simp [intOf]; omega
          · rw [k0] at C3
            go_wp2
            have k_a0 := cell_regrown a0
            have k_e1 := cell_regrown e1
            have k_e2 := cell_regrown e2
            have k_v0 := cell_regrown v0
            have k_v1 := cell_regrown v1
            have k_v2 := cell_regrown v2
            have k_v3 := cell_regrown v3
            have k_S1 := smp_regrown S1
            refine wp_region_quiet_below (by kernel_rfl) (by kernel_rfl) ?_
            repeat (first | (go_big_quiet_want; refine quiet_sload _ _ rfl smpT (fun W hW => smp_class S1 hW) rfl ?_; go_simp; go_big_quiet_on) | (go_big_quiet_want; refine quiet_bload _ _ rfl bordT (fun W hW => smp_class S1 hW) rfl ?_; go_simp; go_big_quiet_on) | go_big_quiet_step ((first | (go_at_call 18; with_reducible exact Calls.regrown_of (C3.out _ (J1.on (below_regrown _ _ _)))))) | quiet_step ((first | (go_at_call 18; with_reducible exact Calls.regrown_of (C3.out _ (J1.on (below_regrown _ _ _)))))))
            refine wpQuiet_nil ?_
            intro W hw'
            have B := below_regrown' hw'
            clear hw' k_a0 k_e1 k_e2 k_v0 k_v1 k_v2 k_v3 k_S1
            replace BB := bon BB B
            replace a0 := cell_below B a0
            replace e1 := cell_below B e1
            replace e2 := cell_below B e2
            replace v0 := cell_below B v0
            replace v1 := cell_below B v1
            replace v2 := cell_below B v2
            replace v3 := cell_below B v3
            replace S1 := smp_below B S1
            replace J1 := RdI.on J1 B
            go_wp2
            go_roundw
            case rel => exact ⟨q + 1, by go_num, by omega, fun h => by have := hne h; omega, a0, e1, e2, v0, v1, v2, v3, S1, J1, BB⟩
            case measure => simp [intOf]; omega
          · rw [k0, k1] at C3
            go_wp2
            have k_a0 := cell_regrown a0
            have k_e1 := cell_regrown e1
            have k_e2 := cell_regrown e2
            have k_v0 := cell_regrown v0
            have k_v1 := cell_regrown v1
            have k_v2 := cell_regrown v2
            have k_v3 := cell_regrown v3
            have k_S1 := smp_regrown S1
            refine wp_region_quiet_below (by kernel_rfl) (by kernel_rfl) ?_
            repeat (first | (go_big_quiet_want; refine quiet_sload _ _ rfl smpT (fun W hW => smp_class S1 hW) rfl ?_; go_simp; go_big_quiet_on) | (go_big_quiet_want; refine quiet_bload _ _ rfl bordT (fun W hW => smp_class S1 hW) rfl ?_; go_simp; go_big_quiet_on) | go_big_quiet_step ((first | (go_at_call 18; with_reducible exact Calls.regrown_of (C3.out _ (J1.on (below_regrown _ _ _)))))) | quiet_step ((first | (go_at_call 18; with_reducible exact Calls.regrown_of (C3.out _ (J1.on (below_regrown _ _ _)))))))
            refine wpQuiet_nil ?_
            intro W hw'
            have B := below_regrown' hw'
            clear hw' k_a0 k_e1 k_e2 k_v0 k_v1 k_v2 k_v3 k_S1
            replace BB := bon BB B
            replace a0 := cell_below B a0
            replace e1 := cell_below B e1
            replace e2 := cell_below B e2
            replace v0 := cell_below B v0
            replace v1 := cell_below B v1
            replace v2 := cell_below B v2
            replace v3 := cell_below B v3
            replace S1 := smp_below B S1
            replace J1 := RdI.on J1 B
            go_wp2
            go_roundw
            case rel => exact ⟨q + 1, by go_num, by omega, fun h => by have := hne h; omega, a0, e1, e2, v0, v1, v2, v3, S1, J1, BB⟩
            case measure => simp [intOf]; omega
          · rw [k0, k1, k2] at C3
            go_wp2
            have k_a0 := cell_regrown a0
            have k_e1 := cell_regrown e1
            have k_e2 := cell_regrown e2
            have k_v0 := cell_regrown v0
            have k_v1 := cell_regrown v1
            have k_v2 := cell_regrown v2
            have k_v3 := cell_regrown v3
            have k_S1 := smp_regrown S1
            refine wp_region_quiet_below (by kernel_rfl) (by kernel_rfl) ?_
            repeat (first | (go_big_quiet_want; refine quiet_sload _ _ rfl smpT (fun W hW => smp_class S1 hW) rfl ?_; go_simp; go_big_quiet_on) | (go_big_quiet_want; refine quiet_bload _ _ rfl bordT (fun W hW => smp_class S1 hW) rfl ?_; go_simp; go_big_quiet_on) | go_big_quiet_step ((first | (go_at_call 18; with_reducible exact Calls.regrown_of (C3.out _ (J1.on (below_regrown _ _ _)))))) | quiet_step ((first | (go_at_call 18; with_reducible exact Calls.regrown_of (C3.out _ (J1.on (below_regrown _ _ _)))))))
            refine wpQuiet_nil ?_
            intro W hw'
            have B := below_regrown' hw'
            clear hw' k_a0 k_e1 k_e2 k_v0 k_v1 k_v2 k_v3 k_S1
            replace BB := bon BB B
            replace a0 := cell_below B a0
            replace e1 := cell_below B e1
            replace e2 := cell_below B e2
            replace v0 := cell_below B v0
            replace v1 := cell_below B v1
            replace v2 := cell_below B v2
            replace v3 := cell_below B v3
            replace S1 := smp_below B S1
            replace J1 := RdI.on J1 B
            go_wp2
            go_roundw
            case rel => exact ⟨q + 1, by go_num, by omega, fun h => by have := hne h; omega, a0, e1, e2, v0, v1, v2, v3, S1, J1, BB⟩
            case measure => simp [intOf]; omega
      · have hjY : j < Y := by
          rcases Nat.lt_or_ge j Y with h | h
          · exact h
          · exfalso
            have := hqX (by omega)
            omega
        go_wp2
        go_roundw
        case rel => exact ⟨j + 1, by go_num, by omega, a0, e1, e2, v0, v1, v2, v3, S1, J1, BB⟩
        case measure => simp [intOf]; omega

set_option maxRecDepth 100000 in
set_option maxHeartbeats 8000000 in
theorem nearest_2_a1 (A : Option Addr) (n c : Nat) (ts : List Tx) (s : Nat → Int) (u v k l : Int) (w : World) (R : RdI w w.heap.size A n ts) (hn : n ≤ 9223372036854775807) (h : SV s) (hn0 : 0 < n) (lw lh : Int) (hw : (lvl ts 0).w = lw) (hh : (lvl ts 0).h = lh) (h64 : ¬ 64 < lw) (k64 : ¬ 64 < lh) (hcan : can ts s 0) (r : Nat → Int) (hr : slv ts s u v 0 1 = r) (y0 : r 0 = 0) (y1 : r 1 = 0) (y2 : ¬ r 2 = 0) (m0 : s 0 = 4) (x0 : r 0 = s 5) (x1 : ¬ r 1 = s 6) :
    Calls Try.prog 5 #[.agg #[.slice A n c], .agg (smps s), .agg #[.int .i64 u, .int .i64 v, .int .i64 k, .int .i64 l]] w fun e w' => e = .returned (.bool true) ∧ Below w.heap.size w w' := by
  obtain ⟨B0, a0, S0⟩ := args_ts w A n c s 41 27
  obtain ⟨p0, p1, p2, p3, B1⟩ := box4 ((w.alloc (.cells #[.slice A n c] 41)).alloc (.cells (smps s) 27)) (.int .i64 u) (.int .i64 v) (.int .i64 k) (.int .i64 l) 38
  have z2 : ((w.alloc (.cells #[.slice A n c] 41)).alloc (.cells (smps s) 27)).heap.size = w.heap.size + 2 := by simp
  rw [z2] at p0 p1 p2 p3
  replace a0 := cell_below B1 a0
  replace S0 := smp_below B1 S0
  have BB := bon B0 B1
  have J1 := R.on BB
  have CE := Lib.hid (fun W => sexample_b W)
  have cv := fun W => sval_b s W
  have c1 := fun W R => sslv_b A n c ts s u v 0 1 W R hn
  obtain ⟨bb, off, t, rfl, _, TA, _, ht⟩ := J1.at_ hn0
  obtain ⟨_, e1, e2, _⟩ := TA
  simp only [Nat.zero_mul, Nat.add_zero] at e1 e2
  have hl : lvl ts 0 = t.m := by unfold lvl; simp [List.getD, ht]
  have n0 : ¬ (n : Int) = 0 := by omega
  have n00 : ((n : Int) == 0) = false := by simp; omega
  have n1 : ¬ n = 0 := by omega
  rw [decide_eq_true h] at cv
  have CV := Lib.hid cv
  unfold GivesV at c1
  rw [hr] at c1
  have C1 := Lib.hid c1
  rw [← hl, hw] at e1
  rw [← hl, hh] at e2
  have d1 : decide (64 < lw) = false := decide_eq_false h64
  have d2 : decide (64 < lh) = false := decide_eq_false k64
  clear c1 cv B0 B1 z2 hl ht
  go_enter Try.func5, Try.ntmps5
  obtain ⟨X, Y, hX, hY, hXY0⟩ := nearest_in (u := u) (v := v) hcan (.inr fun q => x1 ((congrFun hr 1).symm.trans (q 1 (by omega))))
  have hXY := fun i => (hXY0 i).trans (congrFun hr i)
  rw [hw] at hX
  rw [hh] at hY
  have C2 := Lib.hid (fun x y W R => stexel_b (some ⟨bb, off, none⟩) n c ts (edg s) x y 0 W R hn)
  unfold GivesV at C2
  have HXY := Lib.hid hXY
  clear hXY0 hXY hr hw hh hcan R hn
  go_wp2_with (first | ((with_reducible refine sloadN smpT S0 ?_ ?_); focus rfl) | (go_at_call 17; (with_reducible refine (C1.out _ J1).mono ?_); rintro _ V1 ⟨rfl, B⟩; replace BB := bon BB B; replace a0 := cell_below B a0; replace S0 := smp_below B S0; replace e1 := cell_below B e1; replace e2 := cell_below B e2; replace J1 := RdI.on J1 B; clear B) | (go_at_call 15; (with_reducible refine (CV.out _).mono ?_); rintro _ V4 ⟨rfl, B⟩; replace BB := bon BB B; replace a0 := cell_below B a0; replace S0 := smp_below B S0; replace e1 := cell_below B e1; replace e2 := cell_below B e2; replace v0 := cell_below B v0; replace v1 := cell_below B v1; replace v2 := cell_below B v2; replace v3 := cell_below B v3; replace J1 := RdI.on J1 B; clear B) | (go_at_call 14; (with_reducible refine (CE.out _).mono ?_); rintro _ V3 ⟨rfl, B⟩; replace BB := bon BB B; replace a0 := cell_below B a0; replace S0 := smp_below B S0; replace e1 := cell_below B e1; replace e2 := cell_below B e2; replace v0 := cell_below B v0; replace v1 := cell_below B v1; replace v2 := cell_below B v2; replace v3 := cell_below B v3; replace J1 := RdI.on J1 B; clear B) | ((with_reducible refine storeN ?_); refine wpList_vset rfl _ _ _ rfl _ _ _ _ rfl rfl (VBox.made _ 0 0 0 0 _) (by kernel_rfl) ?_; intro V2 B2 D3 hD hz; have B : Below V1.heap.size V1 V2 := (box_below V1 _ _).trans B2; replace BB := bon BB B; replace a0 := cell_below B a0; replace S0 := smp_below B S0; replace e1 := cell_below B e1; replace e2 := cell_below B e2; replace J1 := RdI.on J1 B; obtain ⟨v0, v1, v2, v3⟩ := D3.1; clear B B2 D3 hD hz) | ((with_reducible refine storeN ?_); refine wpList_sset rfl _ _ _ rfl s rfl rfl (SBox.made _ (fun _ => 0) _) (by kernel_rfl) ?_; intro V5 E5 B5 _ _) | ((with_reducible refine storeN ?_); refine wpList_sset1 rfl _ _ _ rfl E5 (fun i => if i = 0 then 3 else s i) rfl (fun i hi => if_neg hi) rfl rfl (by omega) (by kernel_rfl) ?_; intro V6 E6 B6 _ _) | ((with_reducible refine storeN ?_); refine wpList_sset1 rfl _ _ _ rfl E6 (edg s) rfl (fun i hi => by unfold edg; simp [hi]) rfl rfl (by omega) (by kernel_rfl) ?_; intro V7 E7 B7 _ _; have B : Below V4.heap.size V4 V7 := (((box_below V4 _ _).trans B5).trans B6).trans B7; replace BB := bon BB B; replace a0 := cell_below B a0; replace S0 := smp_below B S0; replace e1 := cell_below B e1; replace e2 := cell_below B e2; replace v0 := cell_below B v0; replace v1 := cell_below B v1; replace v2 := cell_below B v2; replace v3 := cell_below B v3; replace J1 := RdI.on J1 B; have S1 := E7.1; clear B B5 B6 B7 E5 E6 E7))
  replace v0 : V7.cell? ⟨V1.heap.size, 0, none⟩ = some (.int .i64 (r 0)) := v0.trans (congrArg (fun z => some (Value.int .i64 z)) (by omega))
  replace v1 : V7.cell? ⟨V1.heap.size, 1, none⟩ = some (.int .i64 (r 1)) := v1.trans (congrArg (fun z => some (Value.int .i64 z)) (by omega))
  replace v2 : V7.cell? ⟨V1.heap.size, 2, none⟩ = some (.int .i64 (r 2)) := v2.trans (congrArg (fun z => some (Value.int .i64 z)) (by omega))
  replace v3 : V7.cell? ⟨V1.heap.size, 3, none⟩ = some (.int .i64 (r 3)) := v3.trans (congrArg (fun z => some (Value.int .i64 z)) (by omega))
  clear y0 y1 y2 m0 x0 x1
  generalize V1.heap.size = bv at *
  generalize V4.heap.size = bs at *
  clear S0 p0 p1 p2 p3 C1 CV
  go_loopw [9] (fun i wr => ∃ j : Nat, i = .int .i64 j ∧ j ≤ Y ∧ wr.cell? ⟨w.heap.size, 0, none⟩ = some (.slice (some ⟨bb, off, none⟩) n c) ∧ wr.cell? ⟨bb, off + 1, none⟩ = some (.int .i64 lw) ∧ wr.cell? ⟨bb, off + 2, none⟩ = some (.int .i64 lh) ∧ wr.cell? ⟨bv, 0, none⟩ = some (.int .i64 (r 0)) ∧ wr.cell? ⟨bv, 1, none⟩ = some (.int .i64 (r 1)) ∧ wr.cell? ⟨bv, 2, none⟩ = some (.int .i64 (r 2)) ∧ wr.cell? ⟨bv, 3, none⟩ = some (.int .i64 (r 3)) ∧ (∀ i, i < 12 → wr.cell? ⟨bs, i, none⟩ = some (.int .i64 ((edg s) i))) ∧ RdI wr wr.heap.size (some ⟨bb, off, none⟩) n ts ∧ Below w.heap.size w wr) (fun i _ => Y + 1 - (intOf i).toNat)
  case atStart => exact ⟨0, rfl, by omega, a0, e1, e2, v0, v1, v2, v3, S1, J1, BB⟩
  case round =>
    clear a0 e1 e2 v0 v1 v2 v3 S1 J1 BB
    obtain ⟨j, rfl, hj, a0, e1, e2, v0, v1, v2, v3, S1, J1, BB⟩ := hrel
    have hjh : (j : Int) < lh := by omega
    go_wp2
    go_loopw [10] (fun i wr => ∃ q : Nat, i = .int .i64 q ∧ (q : Int) ≤ lw ∧ (j = Y → q ≤ X) ∧ wr.cell? ⟨w.heap.size, 0, none⟩ = some (.slice (some ⟨bb, off, none⟩) n c) ∧ wr.cell? ⟨bb, off + 1, none⟩ = some (.int .i64 lw) ∧ wr.cell? ⟨bb, off + 2, none⟩ = some (.int .i64 lh) ∧ wr.cell? ⟨bv, 0, none⟩ = some (.int .i64 (r 0)) ∧ wr.cell? ⟨bv, 1, none⟩ = some (.int .i64 (r 1)) ∧ wr.cell? ⟨bv, 2, none⟩ = some (.int .i64 (r 2)) ∧ wr.cell? ⟨bv, 3, none⟩ = some (.int .i64 (r 3)) ∧ (∀ i, i < 12 → wr.cell? ⟨bs, i, none⟩ = some (.int .i64 ((edg s) i))) ∧ RdI wr wr.heap.size (some ⟨bb, off, none⟩) n ts ∧ Below w.heap.size w wr) (fun i _ => lw.toNat - (intOf i).toNat)
    case atStart => exact ⟨0, rfl, by omega, fun _ => by omega, a0, e1, e2, v0, v1, v2, v3, S1, J1, BB⟩
    case round =>
      clear a0 e1 e2 v0 v1 v2 v3 S1 J1 BB
      obtain ⟨q, rfl, hq, hqX, a0, e1, e2, v0, v1, v2, v3, S1, J1, BB⟩ := hrel
      by_cases hql : (q : Int) < lw
      · obtain ⟨z, hz⟩ : ∃ z, stx ts (edg s) q j 0 = z := ⟨_, rfl⟩
        have c3 := C2.out (q : Int) (j : Int)
        rw [hz] at c3
        have C3 := Lib.hid c3
        clear c3
        by_cases hall : ∀ i, i < 4 → z i = r i
        · rw [hall 0 (by omega), hall 1 (by omega), hall 2 (by omega), hall 3 (by omega)] at C3
          clear hall hz hqX C2 HXY
          go_wp2
          have k_a0 := cell_regrown a0
          have k_e1 := cell_regrown e1
          have k_e2 := cell_regrown e2
          have k_v0 := cell_regrown v0
          have k_v1 := cell_regrown v1
          have k_v2 := cell_regrown v2
          have k_v3 := cell_regrown v3
          have k_S1 := smp_regrown S1
          refine wp_region_quiet_below (by kernel_rfl) (by kernel_rfl) ?_
          repeat (first | (go_big_quiet_want; refine quiet_sload _ _ rfl smpT (fun W hW => smp_class S1 hW) rfl ?_; go_simp; go_big_quiet_on) | (go_big_quiet_want; refine quiet_bload _ _ rfl bordT (fun W hW => smp_class S1 hW) rfl ?_; go_simp; go_big_quiet_on) | go_big_quiet_step ((first | (go_at_call 18; with_reducible exact Calls.regrown_of (C3.out _ (J1.on (below_regrown _ _ _)))))) | quiet_step ((first | (go_at_call 18; with_reducible exact Calls.regrown_of (C3.out _ (J1.on (below_regrown _ _ _)))))))
          refine wpQuiet_nil ?_
          intro W hw'
          have B := below_regrown' hw'
          clear hw' k_a0 k_e1 k_e2 k_v0 k_v1 k_v2 k_v3 k_S1
          replace BB := bon BB B
          replace a0 := cell_below B a0
          replace e1 := cell_below B e1
          replace e2 := cell_below B e2
          replace v0 := cell_below B v0
          replace v1 := cell_below B v1
          replace v2 := cell_below B v2
          replace v3 := cell_below B v3
          replace S1 := smp_below B S1
          replace J1 := RdI.on J1 B
          go_wp2_with (go_at_call 14; (with_reducible refine (CE.out _).mono ?_); rintro _ V3 ⟨rfl, B⟩; (replace BB := bon BB B; replace a0 := cell_below B a0; replace e1 := cell_below B e1; replace e2 := cell_below B e2; replace v0 := cell_below B v0; replace v1 := cell_below B v1; replace v2 := cell_below B v2; replace v3 := cell_below B v3; replace S1 := smp_below B S1; replace J1 := RdI.on J1 B); clear B)
          go_ret
          exact ⟨rfl, BB⟩
        · have hne : j = Y → q < X := by
            intro hy
            rcases Nat.lt_or_ge q X with h | h
            · exact h
            · exfalso
              obtain rfl : q = X := by have := hqX hy; omega
              subst hy
              exact hall fun i _ => by rw [← hz]; exact HXY.out i
          have hd : ¬ z 0 = r 0 ∨ (z 0 = r 0 ∧ ¬ z 1 = r 1) ∨ (z 0 = r 0 ∧ z 1 = r 1 ∧ ¬ z 2 = r 2) ∨ (z 0 = r 0 ∧ z 1 = r 1 ∧ z 2 = r 2 ∧ ¬ z 3 = r 3) := by
            by_cases k0 : z 0 = r 0
            · by_cases k1 : z 1 = r 1
              · by_cases k2 : z 2 = r 2
                · by_cases k3 : z 3 = r 3
                  · exact absurd (fun i (hi : i < 4) => (match i, hi with | 0, _ => k0 | 1, _ => k1 | 2, _ => k2 | 3, _ => k3 : z i = r i)) hall
                  · exact .inr (.inr (.inr ⟨k0, k1, k2, k3⟩))
                · exact .inr (.inr (.inl ⟨k0, k1, k2⟩))
              · exact .inr (.inl ⟨k0, k1⟩)
            · exact .inl k0
          clear hall hz hqX C2 HXY
          rcases hd with k0 | ⟨k0, k1⟩ | ⟨k0, k1, k2⟩ | ⟨k0, k1, k2, k3⟩
          · skip
            go_wp2
            have k_a0 := cell_regrown a0
            have k_e1 := cell_regrown e1
            have k_e2 := cell_regrown e2
            have k_v0 := cell_regrown v0
            have k_v1 := cell_regrown v1
            have k_v2 := cell_regrown v2
            have k_v3 := cell_regrown v3
            have k_S1 := smp_regrown S1
            refine wp_region_quiet_below (by kernel_rfl) (by kernel_rfl) ?_
            repeat (first | (go_big_quiet_want; refine quiet_sload _ _ rfl smpT (fun W hW => smp_class S1 hW) rfl ?_; go_simp; go_big_quiet_on) | (go_big_quiet_want; refine quiet_bload _ _ rfl bordT (fun W hW => smp_class S1 hW) rfl ?_; go_simp; go_big_quiet_on) | go_big_quiet_step ((first | (go_at_call 18; with_reducible exact Calls.regrown_of (C3.out _ (J1.on (below_regrown _ _ _)))))) | quiet_step ((first | (go_at_call 18; with_reducible exact Calls.regrown_of (C3.out _ (J1.on (below_regrown _ _ _)))))))
            refine wpQuiet_nil ?_
            intro W hw'
            have B := below_regrown' hw'
            clear hw' k_a0 k_e1 k_e2 k_v0 k_v1 k_v2 k_v3 k_S1
            replace BB := bon BB B
            replace a0 := cell_below B a0
            replace e1 := cell_below B e1
            replace e2 := cell_below B e2
            replace v0 := cell_below B v0
            replace v1 := cell_below B v1
            replace v2 := cell_below B v2
            replace v3 := cell_below B v3
            replace S1 := smp_below B S1
            replace J1 := RdI.on J1 B
            go_wp2
            go_roundw
            case rel => exact ⟨q + 1, by go_num, by omega, fun h => by have := hne h; omega, a0, e1, e2, v0, v1, v2, v3, S1, J1, BB⟩
            case measure => simp [intOf]; omega
          · rw [k0] at C3
            go_wp2
            have k_a0 := cell_regrown a0
            have k_e1 := cell_regrown e1
            have k_e2 := cell_regrown e2
            have k_v0 := cell_regrown v0
            have k_v1 := cell_regrown v1
            have k_v2 := cell_regrown v2
            have k_v3 := cell_regrown v3
            have k_S1 := smp_regrown S1
            refine wp_region_quiet_below (by kernel_rfl) (by kernel_rfl) ?_
            repeat (first | (go_big_quiet_want; refine quiet_sload _ _ rfl smpT (fun W hW => smp_class S1 hW) rfl ?_; go_simp; go_big_quiet_on) | (go_big_quiet_want; refine quiet_bload _ _ rfl bordT (fun W hW => smp_class S1 hW) rfl ?_; go_simp; go_big_quiet_on) | go_big_quiet_step ((first | (go_at_call 18; with_reducible exact Calls.regrown_of (C3.out _ (J1.on (below_regrown _ _ _)))))) | quiet_step ((first | (go_at_call 18; with_reducible exact Calls.regrown_of (C3.out _ (J1.on (below_regrown _ _ _)))))))
            refine wpQuiet_nil ?_
            intro W hw'
            have B := below_regrown' hw'
            clear hw' k_a0 k_e1 k_e2 k_v0 k_v1 k_v2 k_v3 k_S1
            replace BB := bon BB B
            replace a0 := cell_below B a0
            replace e1 := cell_below B e1
            replace e2 := cell_below B e2
            replace v0 := cell_below B v0
            replace v1 := cell_below B v1
            replace v2 := cell_below B v2
            replace v3 := cell_below B v3
            replace S1 := smp_below B S1
            replace J1 := RdI.on J1 B
            go_wp2
            go_roundw
            case rel => exact ⟨q + 1, by go_num, by omega, fun h => by have := hne h; omega, a0, e1, e2, v0, v1, v2, v3, S1, J1, BB⟩
            case measure => simp [intOf]; omega
          · rw [k0, k1] at C3
            go_wp2
            have k_a0 := cell_regrown a0
            have k_e1 := cell_regrown e1
            have k_e2 := cell_regrown e2
            have k_v0 := cell_regrown v0
            have k_v1 := cell_regrown v1
            have k_v2 := cell_regrown v2
            have k_v3 := cell_regrown v3
            have k_S1 := smp_regrown S1
            refine wp_region_quiet_below (by kernel_rfl) (by kernel_rfl) ?_
            repeat (first | (go_big_quiet_want; refine quiet_sload _ _ rfl smpT (fun W hW => smp_class S1 hW) rfl ?_; go_simp; go_big_quiet_on) | (go_big_quiet_want; refine quiet_bload _ _ rfl bordT (fun W hW => smp_class S1 hW) rfl ?_; go_simp; go_big_quiet_on) | go_big_quiet_step ((first | (go_at_call 18; with_reducible exact Calls.regrown_of (C3.out _ (J1.on (below_regrown _ _ _)))))) | quiet_step ((first | (go_at_call 18; with_reducible exact Calls.regrown_of (C3.out _ (J1.on (below_regrown _ _ _)))))))
            refine wpQuiet_nil ?_
            intro W hw'
            have B := below_regrown' hw'
            clear hw' k_a0 k_e1 k_e2 k_v0 k_v1 k_v2 k_v3 k_S1
            replace BB := bon BB B
            replace a0 := cell_below B a0
            replace e1 := cell_below B e1
            replace e2 := cell_below B e2
            replace v0 := cell_below B v0
            replace v1 := cell_below B v1
            replace v2 := cell_below B v2
            replace v3 := cell_below B v3
            replace S1 := smp_below B S1
            replace J1 := RdI.on J1 B
            go_wp2
            go_roundw
            case rel => exact ⟨q + 1, by go_num, by omega, fun h => by have := hne h; omega, a0, e1, e2, v0, v1, v2, v3, S1, J1, BB⟩
            case measure => simp [intOf]; omega
          · rw [k0, k1, k2] at C3
            go_wp2
            have k_a0 := cell_regrown a0
            have k_e1 := cell_regrown e1
            have k_e2 := cell_regrown e2
            have k_v0 := cell_regrown v0
            have k_v1 := cell_regrown v1
            have k_v2 := cell_regrown v2
            have k_v3 := cell_regrown v3
            have k_S1 := smp_regrown S1
            refine wp_region_quiet_below (by kernel_rfl) (by kernel_rfl) ?_
            repeat (first | (go_big_quiet_want; refine quiet_sload _ _ rfl smpT (fun W hW => smp_class S1 hW) rfl ?_; go_simp; go_big_quiet_on) | (go_big_quiet_want; refine quiet_bload _ _ rfl bordT (fun W hW => smp_class S1 hW) rfl ?_; go_simp; go_big_quiet_on) | go_big_quiet_step ((first | (go_at_call 18; with_reducible exact Calls.regrown_of (C3.out _ (J1.on (below_regrown _ _ _)))))) | quiet_step ((first | (go_at_call 18; with_reducible exact Calls.regrown_of (C3.out _ (J1.on (below_regrown _ _ _)))))))
            refine wpQuiet_nil ?_
            intro W hw'
            have B := below_regrown' hw'
            clear hw' k_a0 k_e1 k_e2 k_v0 k_v1 k_v2 k_v3 k_S1
            replace BB := bon BB B
            replace a0 := cell_below B a0
            replace e1 := cell_below B e1
            replace e2 := cell_below B e2
            replace v0 := cell_below B v0
            replace v1 := cell_below B v1
            replace v2 := cell_below B v2
            replace v3 := cell_below B v3
            replace S1 := smp_below B S1
            replace J1 := RdI.on J1 B
            go_wp2
            go_roundw
            case rel => exact ⟨q + 1, by go_num, by omega, fun h => by have := hne h; omega, a0, e1, e2, v0, v1, v2, v3, S1, J1, BB⟩
            case measure => simp [intOf]; omega
      · have hjY : j < Y := by
          rcases Nat.lt_or_ge j Y with h | h
          · exact h
          · exfalso
            have := hqX (by omega)
            omega
        go_wp2
        go_roundw
        case rel => exact ⟨j + 1, by go_num, by omega, a0, e1, e2, v0, v1, v2, v3, S1, J1, BB⟩
        case measure => simp [intOf]; omega

set_option maxRecDepth 100000 in
set_option maxHeartbeats 8000000 in
theorem nearest_2_a2 (A : Option Addr) (n c : Nat) (ts : List Tx) (s : Nat → Int) (u v k l : Int) (w : World) (R : RdI w w.heap.size A n ts) (hn : n ≤ 9223372036854775807) (h : SV s) (hn0 : 0 < n) (lw lh : Int) (hw : (lvl ts 0).w = lw) (hh : (lvl ts 0).h = lh) (h64 : ¬ 64 < lw) (k64 : ¬ 64 < lh) (hcan : can ts s 0) (r : Nat → Int) (hr : slv ts s u v 0 1 = r) (y0 : r 0 = 0) (y1 : r 1 = 0) (y2 : ¬ r 2 = 0) (m0 : s 0 = 4) (x0 : r 0 = s 5) (x1 : r 1 = s 6) (x2 : ¬ r 2 = s 7) :
    Calls Try.prog 5 #[.agg #[.slice A n c], .agg (smps s), .agg #[.int .i64 u, .int .i64 v, .int .i64 k, .int .i64 l]] w fun e w' => e = .returned (.bool true) ∧ Below w.heap.size w w' := by
  obtain ⟨B0, a0, S0⟩ := args_ts w A n c s 41 27
  obtain ⟨p0, p1, p2, p3, B1⟩ := box4 ((w.alloc (.cells #[.slice A n c] 41)).alloc (.cells (smps s) 27)) (.int .i64 u) (.int .i64 v) (.int .i64 k) (.int .i64 l) 38
  have z2 : ((w.alloc (.cells #[.slice A n c] 41)).alloc (.cells (smps s) 27)).heap.size = w.heap.size + 2 := by simp
  rw [z2] at p0 p1 p2 p3
  replace a0 := cell_below B1 a0
  replace S0 := smp_below B1 S0
  have BB := bon B0 B1
  have J1 := R.on BB
  have CE := Lib.hid (fun W => sexample_b W)
  have cv := fun W => sval_b s W
  have c1 := fun W R => sslv_b A n c ts s u v 0 1 W R hn
  obtain ⟨bb, off, t, rfl, _, TA, _, ht⟩ := J1.at_ hn0
  obtain ⟨_, e1, e2, _⟩ := TA
  simp only [Nat.zero_mul, Nat.add_zero] at e1 e2
  have hl : lvl ts 0 = t.m := by unfold lvl; simp [List.getD, ht]
  have n0 : ¬ (n : Int) = 0 := by omega
  have n00 : ((n : Int) == 0) = false := by simp; omega
  have n1 : ¬ n = 0 := by omega
  rw [decide_eq_true h] at cv
  have CV := Lib.hid cv
  unfold GivesV at c1
  rw [hr] at c1
  have C1 := Lib.hid c1
  rw [← hl, hw] at e1
  rw [← hl, hh] at e2
  have d1 : decide (64 < lw) = false := decide_eq_false h64
  have d2 : decide (64 < lh) = false := decide_eq_false k64
  clear c1 cv B0 B1 z2 hl ht
  go_enter Try.func5, Try.ntmps5
  obtain ⟨X, Y, hX, hY, hXY0⟩ := nearest_in (u := u) (v := v) hcan (.inr fun q => x2 ((congrFun hr 2).symm.trans (q 2 (by omega))))
  have hXY := fun i => (hXY0 i).trans (congrFun hr i)
  rw [hw] at hX
  rw [hh] at hY
  have C2 := Lib.hid (fun x y W R => stexel_b (some ⟨bb, off, none⟩) n c ts (edg s) x y 0 W R hn)
  unfold GivesV at C2
  have HXY := Lib.hid hXY
  clear hXY0 hXY hr hw hh hcan R hn
  go_wp2_with (first | ((with_reducible refine sloadN smpT S0 ?_ ?_); focus rfl) | (go_at_call 17; (with_reducible refine (C1.out _ J1).mono ?_); rintro _ V1 ⟨rfl, B⟩; replace BB := bon BB B; replace a0 := cell_below B a0; replace S0 := smp_below B S0; replace e1 := cell_below B e1; replace e2 := cell_below B e2; replace J1 := RdI.on J1 B; clear B) | (go_at_call 15; (with_reducible refine (CV.out _).mono ?_); rintro _ V4 ⟨rfl, B⟩; replace BB := bon BB B; replace a0 := cell_below B a0; replace S0 := smp_below B S0; replace e1 := cell_below B e1; replace e2 := cell_below B e2; replace v0 := cell_below B v0; replace v1 := cell_below B v1; replace v2 := cell_below B v2; replace v3 := cell_below B v3; replace J1 := RdI.on J1 B; clear B) | (go_at_call 14; (with_reducible refine (CE.out _).mono ?_); rintro _ V3 ⟨rfl, B⟩; replace BB := bon BB B; replace a0 := cell_below B a0; replace S0 := smp_below B S0; replace e1 := cell_below B e1; replace e2 := cell_below B e2; replace v0 := cell_below B v0; replace v1 := cell_below B v1; replace v2 := cell_below B v2; replace v3 := cell_below B v3; replace J1 := RdI.on J1 B; clear B) | ((with_reducible refine storeN ?_); refine wpList_vset rfl _ _ _ rfl _ _ _ _ rfl rfl (VBox.made _ 0 0 0 0 _) (by kernel_rfl) ?_; intro V2 B2 D3 hD hz; have B : Below V1.heap.size V1 V2 := (box_below V1 _ _).trans B2; replace BB := bon BB B; replace a0 := cell_below B a0; replace S0 := smp_below B S0; replace e1 := cell_below B e1; replace e2 := cell_below B e2; replace J1 := RdI.on J1 B; obtain ⟨v0, v1, v2, v3⟩ := D3.1; clear B B2 D3 hD hz) | ((with_reducible refine storeN ?_); refine wpList_sset rfl _ _ _ rfl s rfl rfl (SBox.made _ (fun _ => 0) _) (by kernel_rfl) ?_; intro V5 E5 B5 _ _) | ((with_reducible refine storeN ?_); refine wpList_sset1 rfl _ _ _ rfl E5 (fun i => if i = 0 then 3 else s i) rfl (fun i hi => if_neg hi) rfl rfl (by omega) (by kernel_rfl) ?_; intro V6 E6 B6 _ _) | ((with_reducible refine storeN ?_); refine wpList_sset1 rfl _ _ _ rfl E6 (edg s) rfl (fun i hi => by unfold edg; simp [hi]) rfl rfl (by omega) (by kernel_rfl) ?_; intro V7 E7 B7 _ _; have B : Below V4.heap.size V4 V7 := (((box_below V4 _ _).trans B5).trans B6).trans B7; replace BB := bon BB B; replace a0 := cell_below B a0; replace S0 := smp_below B S0; replace e1 := cell_below B e1; replace e2 := cell_below B e2; replace v0 := cell_below B v0; replace v1 := cell_below B v1; replace v2 := cell_below B v2; replace v3 := cell_below B v3; replace J1 := RdI.on J1 B; have S1 := E7.1; clear B B5 B6 B7 E5 E6 E7))
  replace v0 : V7.cell? ⟨V1.heap.size, 0, none⟩ = some (.int .i64 (r 0)) := v0.trans (congrArg (fun z => some (Value.int .i64 z)) (by omega))
  replace v1 : V7.cell? ⟨V1.heap.size, 1, none⟩ = some (.int .i64 (r 1)) := v1.trans (congrArg (fun z => some (Value.int .i64 z)) (by omega))
  replace v2 : V7.cell? ⟨V1.heap.size, 2, none⟩ = some (.int .i64 (r 2)) := v2.trans (congrArg (fun z => some (Value.int .i64 z)) (by omega))
  replace v3 : V7.cell? ⟨V1.heap.size, 3, none⟩ = some (.int .i64 (r 3)) := v3.trans (congrArg (fun z => some (Value.int .i64 z)) (by omega))
  clear y0 y1 y2 m0 x0 x1 x2
  generalize V1.heap.size = bv at *
  generalize V4.heap.size = bs at *
  clear S0 p0 p1 p2 p3 C1 CV
  go_loopw [9] (fun i wr => ∃ j : Nat, i = .int .i64 j ∧ j ≤ Y ∧ wr.cell? ⟨w.heap.size, 0, none⟩ = some (.slice (some ⟨bb, off, none⟩) n c) ∧ wr.cell? ⟨bb, off + 1, none⟩ = some (.int .i64 lw) ∧ wr.cell? ⟨bb, off + 2, none⟩ = some (.int .i64 lh) ∧ wr.cell? ⟨bv, 0, none⟩ = some (.int .i64 (r 0)) ∧ wr.cell? ⟨bv, 1, none⟩ = some (.int .i64 (r 1)) ∧ wr.cell? ⟨bv, 2, none⟩ = some (.int .i64 (r 2)) ∧ wr.cell? ⟨bv, 3, none⟩ = some (.int .i64 (r 3)) ∧ (∀ i, i < 12 → wr.cell? ⟨bs, i, none⟩ = some (.int .i64 ((edg s) i))) ∧ RdI wr wr.heap.size (some ⟨bb, off, none⟩) n ts ∧ Below w.heap.size w wr) (fun i _ => Y + 1 - (intOf i).toNat)
  case atStart => exact ⟨0, rfl, by omega, a0, e1, e2, v0, v1, v2, v3, S1, J1, BB⟩
  case round =>
    clear a0 e1 e2 v0 v1 v2 v3 S1 J1 BB
    obtain ⟨j, rfl, hj, a0, e1, e2, v0, v1, v2, v3, S1, J1, BB⟩ := hrel
    have hjh : (j : Int) < lh := by omega
    go_wp2
    go_loopw [10] (fun i wr => ∃ q : Nat, i = .int .i64 q ∧ (q : Int) ≤ lw ∧ (j = Y → q ≤ X) ∧ wr.cell? ⟨w.heap.size, 0, none⟩ = some (.slice (some ⟨bb, off, none⟩) n c) ∧ wr.cell? ⟨bb, off + 1, none⟩ = some (.int .i64 lw) ∧ wr.cell? ⟨bb, off + 2, none⟩ = some (.int .i64 lh) ∧ wr.cell? ⟨bv, 0, none⟩ = some (.int .i64 (r 0)) ∧ wr.cell? ⟨bv, 1, none⟩ = some (.int .i64 (r 1)) ∧ wr.cell? ⟨bv, 2, none⟩ = some (.int .i64 (r 2)) ∧ wr.cell? ⟨bv, 3, none⟩ = some (.int .i64 (r 3)) ∧ (∀ i, i < 12 → wr.cell? ⟨bs, i, none⟩ = some (.int .i64 ((edg s) i))) ∧ RdI wr wr.heap.size (some ⟨bb, off, none⟩) n ts ∧ Below w.heap.size w wr) (fun i _ => lw.toNat - (intOf i).toNat)
    case atStart => exact ⟨0, rfl, by omega, fun _ => by omega, a0, e1, e2, v0, v1, v2, v3, S1, J1, BB⟩
    case round =>
      clear a0 e1 e2 v0 v1 v2 v3 S1 J1 BB
      obtain ⟨q, rfl, hq, hqX, a0, e1, e2, v0, v1, v2, v3, S1, J1, BB⟩ := hrel
      by_cases hql : (q : Int) < lw
      · obtain ⟨z, hz⟩ : ∃ z, stx ts (edg s) q j 0 = z := ⟨_, rfl⟩
        have c3 := C2.out (q : Int) (j : Int)
        rw [hz] at c3
        have C3 := Lib.hid c3
        clear c3
        by_cases hall : ∀ i, i < 4 → z i = r i
        · rw [hall 0 (by omega), hall 1 (by omega), hall 2 (by omega), hall 3 (by omega)] at C3
          clear hall hz hqX C2 HXY
          go_wp2
          have k_a0 := cell_regrown a0
          have k_e1 := cell_regrown e1
          have k_e2 := cell_regrown e2
          have k_v0 := cell_regrown v0
          have k_v1 := cell_regrown v1
          have k_v2 := cell_regrown v2
          have k_v3 := cell_regrown v3
          have k_S1 := smp_regrown S1
          refine wp_region_quiet_below (by kernel_rfl) (by kernel_rfl) ?_
          repeat (first | (go_big_quiet_want; refine quiet_sload _ _ rfl smpT (fun W hW => smp_class S1 hW) rfl ?_; go_simp; go_big_quiet_on) | (go_big_quiet_want; refine quiet_bload _ _ rfl bordT (fun W hW => smp_class S1 hW) rfl ?_; go_simp; go_big_quiet_on) | go_big_quiet_step ((first | (go_at_call 18; with_reducible exact Calls.regrown_of (C3.out _ (J1.on (below_regrown _ _ _)))))) | quiet_step ((first | (go_at_call 18; with_reducible exact Calls.regrown_of (C3.out _ (J1.on (below_regrown _ _ _)))))))
          refine wpQuiet_nil ?_
          intro W hw'
          have B := below_regrown' hw'
          clear hw' k_a0 k_e1 k_e2 k_v0 k_v1 k_v2 k_v3 k_S1
          replace BB := bon BB B
          replace a0 := cell_below B a0
          replace e1 := cell_below B e1
          replace e2 := cell_below B e2
          replace v0 := cell_below B v0
          replace v1 := cell_below B v1
          replace v2 := cell_below B v2
          replace v3 := cell_below B v3
          replace S1 := smp_below B S1
          replace J1 := RdI.on J1 B
          go_wp2_with (go_at_call 14; (with_reducible refine (CE.out _).mono ?_); rintro _ V3 ⟨rfl, B⟩; (replace BB := bon BB B; replace a0 := cell_below B a0; replace e1 := cell_below B e1; replace e2 := cell_below B e2; replace v0 := cell_below B v0; replace v1 := cell_below B v1; replace v2 := cell_below B v2; replace v3 := cell_below B v3; replace S1 := smp_below B S1; replace J1 := RdI.on J1 B); clear B)
          go_ret
          exact ⟨rfl, BB⟩
        · have hne : j = Y → q < X := by
            intro hy
            rcases Nat.lt_or_ge q X with h | h
            · exact h
            · exfalso
              obtain rfl : q = X := by have := hqX hy; omega
              subst hy
              exact hall fun i _ => by rw [← hz]; exact HXY.out i
          have hd : ¬ z 0 = r 0 ∨ (z 0 = r 0 ∧ ¬ z 1 = r 1) ∨ (z 0 = r 0 ∧ z 1 = r 1 ∧ ¬ z 2 = r 2) ∨ (z 0 = r 0 ∧ z 1 = r 1 ∧ z 2 = r 2 ∧ ¬ z 3 = r 3) := by
            by_cases k0 : z 0 = r 0
            · by_cases k1 : z 1 = r 1
              · by_cases k2 : z 2 = r 2
                · by_cases k3 : z 3 = r 3
                  · exact absurd (fun i (hi : i < 4) => (match i, hi with | 0, _ => k0 | 1, _ => k1 | 2, _ => k2 | 3, _ => k3 : z i = r i)) hall
                  · exact .inr (.inr (.inr ⟨k0, k1, k2, k3⟩))
                · exact .inr (.inr (.inl ⟨k0, k1, k2⟩))
              · exact .inr (.inl ⟨k0, k1⟩)
            · exact .inl k0
          clear hall hz hqX C2 HXY
          rcases hd with k0 | ⟨k0, k1⟩ | ⟨k0, k1, k2⟩ | ⟨k0, k1, k2, k3⟩
          · skip
            go_wp2
            have k_a0 := cell_regrown a0
            have k_e1 := cell_regrown e1
            have k_e2 := cell_regrown e2
            have k_v0 := cell_regrown v0
            have k_v1 := cell_regrown v1
            have k_v2 := cell_regrown v2
            have k_v3 := cell_regrown v3
            have k_S1 := smp_regrown S1
            refine wp_region_quiet_below (by kernel_rfl) (by kernel_rfl) ?_
            repeat (first | (go_big_quiet_want; refine quiet_sload _ _ rfl smpT (fun W hW => smp_class S1 hW) rfl ?_; go_simp; go_big_quiet_on) | (go_big_quiet_want; refine quiet_bload _ _ rfl bordT (fun W hW => smp_class S1 hW) rfl ?_; go_simp; go_big_quiet_on) | go_big_quiet_step ((first | (go_at_call 18; with_reducible exact Calls.regrown_of (C3.out _ (J1.on (below_regrown _ _ _)))))) | quiet_step ((first | (go_at_call 18; with_reducible exact Calls.regrown_of (C3.out _ (J1.on (below_regrown _ _ _)))))))
            refine wpQuiet_nil ?_
            intro W hw'
            have B := below_regrown' hw'
            clear hw' k_a0 k_e1 k_e2 k_v0 k_v1 k_v2 k_v3 k_S1
            replace BB := bon BB B
            replace a0 := cell_below B a0
            replace e1 := cell_below B e1
            replace e2 := cell_below B e2
            replace v0 := cell_below B v0
            replace v1 := cell_below B v1
            replace v2 := cell_below B v2
            replace v3 := cell_below B v3
            replace S1 := smp_below B S1
            replace J1 := RdI.on J1 B
            go_wp2
            go_roundw
            case rel => exact ⟨q + 1, by go_num, by omega, fun h => by have := hne h; omega, a0, e1, e2, v0, v1, v2, v3, S1, J1, BB⟩
            case measure => simp [intOf]; omega
          · rw [k0] at C3
            go_wp2
            have k_a0 := cell_regrown a0
            have k_e1 := cell_regrown e1
            have k_e2 := cell_regrown e2
            have k_v0 := cell_regrown v0
            have k_v1 := cell_regrown v1
            have k_v2 := cell_regrown v2
            have k_v3 := cell_regrown v3
            have k_S1 := smp_regrown S1
            refine wp_region_quiet_below (by kernel_rfl) (by kernel_rfl) ?_
            repeat (first | (go_big_quiet_want; refine quiet_sload _ _ rfl smpT (fun W hW => smp_class S1 hW) rfl ?_; go_simp; go_big_quiet_on) | (go_big_quiet_want; refine quiet_bload _ _ rfl bordT (fun W hW => smp_class S1 hW) rfl ?_; go_simp; go_big_quiet_on) | go_big_quiet_step ((first | (go_at_call 18; with_reducible exact Calls.regrown_of (C3.out _ (J1.on (below_regrown _ _ _)))))) | quiet_step ((first | (go_at_call 18; with_reducible exact Calls.regrown_of (C3.out _ (J1.on (below_regrown _ _ _)))))))
            refine wpQuiet_nil ?_
            intro W hw'
            have B := below_regrown' hw'
            clear hw' k_a0 k_e1 k_e2 k_v0 k_v1 k_v2 k_v3 k_S1
            replace BB := bon BB B
            replace a0 := cell_below B a0
            replace e1 := cell_below B e1
            replace e2 := cell_below B e2
            replace v0 := cell_below B v0
            replace v1 := cell_below B v1
            replace v2 := cell_below B v2
            replace v3 := cell_below B v3
            replace S1 := smp_below B S1
            replace J1 := RdI.on J1 B
            go_wp2
            go_roundw
            case rel => exact ⟨q + 1, by go_num, by omega, fun h => by have := hne h; omega, a0, e1, e2, v0, v1, v2, v3, S1, J1, BB⟩
            case measure => simp [intOf]; omega
          · rw [k0, k1] at C3
            go_wp2
            have k_a0 := cell_regrown a0
            have k_e1 := cell_regrown e1
            have k_e2 := cell_regrown e2
            have k_v0 := cell_regrown v0
            have k_v1 := cell_regrown v1
            have k_v2 := cell_regrown v2
            have k_v3 := cell_regrown v3
            have k_S1 := smp_regrown S1
            refine wp_region_quiet_below (by kernel_rfl) (by kernel_rfl) ?_
            repeat (first | (go_big_quiet_want; refine quiet_sload _ _ rfl smpT (fun W hW => smp_class S1 hW) rfl ?_; go_simp; go_big_quiet_on) | (go_big_quiet_want; refine quiet_bload _ _ rfl bordT (fun W hW => smp_class S1 hW) rfl ?_; go_simp; go_big_quiet_on) | go_big_quiet_step ((first | (go_at_call 18; with_reducible exact Calls.regrown_of (C3.out _ (J1.on (below_regrown _ _ _)))))) | quiet_step ((first | (go_at_call 18; with_reducible exact Calls.regrown_of (C3.out _ (J1.on (below_regrown _ _ _)))))))
            refine wpQuiet_nil ?_
            intro W hw'
            have B := below_regrown' hw'
            clear hw' k_a0 k_e1 k_e2 k_v0 k_v1 k_v2 k_v3 k_S1
            replace BB := bon BB B
            replace a0 := cell_below B a0
            replace e1 := cell_below B e1
            replace e2 := cell_below B e2
            replace v0 := cell_below B v0
            replace v1 := cell_below B v1
            replace v2 := cell_below B v2
            replace v3 := cell_below B v3
            replace S1 := smp_below B S1
            replace J1 := RdI.on J1 B
            go_wp2
            go_roundw
            case rel => exact ⟨q + 1, by go_num, by omega, fun h => by have := hne h; omega, a0, e1, e2, v0, v1, v2, v3, S1, J1, BB⟩
            case measure => simp [intOf]; omega
          · rw [k0, k1, k2] at C3
            go_wp2
            have k_a0 := cell_regrown a0
            have k_e1 := cell_regrown e1
            have k_e2 := cell_regrown e2
            have k_v0 := cell_regrown v0
            have k_v1 := cell_regrown v1
            have k_v2 := cell_regrown v2
            have k_v3 := cell_regrown v3
            have k_S1 := smp_regrown S1
            refine wp_region_quiet_below (by kernel_rfl) (by kernel_rfl) ?_
            repeat (first | (go_big_quiet_want; refine quiet_sload _ _ rfl smpT (fun W hW => smp_class S1 hW) rfl ?_; go_simp; go_big_quiet_on) | (go_big_quiet_want; refine quiet_bload _ _ rfl bordT (fun W hW => smp_class S1 hW) rfl ?_; go_simp; go_big_quiet_on) | go_big_quiet_step ((first | (go_at_call 18; with_reducible exact Calls.regrown_of (C3.out _ (J1.on (below_regrown _ _ _)))))) | quiet_step ((first | (go_at_call 18; with_reducible exact Calls.regrown_of (C3.out _ (J1.on (below_regrown _ _ _)))))))
            refine wpQuiet_nil ?_
            intro W hw'
            have B := below_regrown' hw'
            clear hw' k_a0 k_e1 k_e2 k_v0 k_v1 k_v2 k_v3 k_S1
            replace BB := bon BB B
            replace a0 := cell_below B a0
            replace e1 := cell_below B e1
            replace e2 := cell_below B e2
            replace v0 := cell_below B v0
            replace v1 := cell_below B v1
            replace v2 := cell_below B v2
            replace v3 := cell_below B v3
            replace S1 := smp_below B S1
            replace J1 := RdI.on J1 B
            go_wp2
            go_roundw
            case rel => exact ⟨q + 1, by go_num, by omega, fun h => by have := hne h; omega, a0, e1, e2, v0, v1, v2, v3, S1, J1, BB⟩
            case measure => simp [intOf]; omega
      · have hjY : j < Y := by
          rcases Nat.lt_or_ge j Y with h | h
          · exact h
          · exfalso
            have := hqX (by omega)
            omega
        go_wp2
        go_roundw
        case rel => exact ⟨j + 1, by go_num, by omega, a0, e1, e2, v0, v1, v2, v3, S1, J1, BB⟩
        case measure => simp [intOf]; omega

set_option maxRecDepth 100000 in
set_option maxHeartbeats 8000000 in
theorem nearest_2_a3 (A : Option Addr) (n c : Nat) (ts : List Tx) (s : Nat → Int) (u v k l : Int) (w : World) (R : RdI w w.heap.size A n ts) (hn : n ≤ 9223372036854775807) (h : SV s) (hn0 : 0 < n) (lw lh : Int) (hw : (lvl ts 0).w = lw) (hh : (lvl ts 0).h = lh) (h64 : ¬ 64 < lw) (k64 : ¬ 64 < lh) (hcan : can ts s 0) (r : Nat → Int) (hr : slv ts s u v 0 1 = r) (y0 : r 0 = 0) (y1 : r 1 = 0) (y2 : ¬ r 2 = 0) (m0 : s 0 = 4) (x0 : r 0 = s 5) (x1 : r 1 = s 6) (x2 : r 2 = s 7) (x3 : ¬ r 3 = s 8) :
    Calls Try.prog 5 #[.agg #[.slice A n c], .agg (smps s), .agg #[.int .i64 u, .int .i64 v, .int .i64 k, .int .i64 l]] w fun e w' => e = .returned (.bool true) ∧ Below w.heap.size w w' := by
  obtain ⟨B0, a0, S0⟩ := args_ts w A n c s 41 27
  obtain ⟨p0, p1, p2, p3, B1⟩ := box4 ((w.alloc (.cells #[.slice A n c] 41)).alloc (.cells (smps s) 27)) (.int .i64 u) (.int .i64 v) (.int .i64 k) (.int .i64 l) 38
  have z2 : ((w.alloc (.cells #[.slice A n c] 41)).alloc (.cells (smps s) 27)).heap.size = w.heap.size + 2 := by simp
  rw [z2] at p0 p1 p2 p3
  replace a0 := cell_below B1 a0
  replace S0 := smp_below B1 S0
  have BB := bon B0 B1
  have J1 := R.on BB
  have CE := Lib.hid (fun W => sexample_b W)
  have cv := fun W => sval_b s W
  have c1 := fun W R => sslv_b A n c ts s u v 0 1 W R hn
  obtain ⟨bb, off, t, rfl, _, TA, _, ht⟩ := J1.at_ hn0
  obtain ⟨_, e1, e2, _⟩ := TA
  simp only [Nat.zero_mul, Nat.add_zero] at e1 e2
  have hl : lvl ts 0 = t.m := by unfold lvl; simp [List.getD, ht]
  have n0 : ¬ (n : Int) = 0 := by omega
  have n00 : ((n : Int) == 0) = false := by simp; omega
  have n1 : ¬ n = 0 := by omega
  rw [decide_eq_true h] at cv
  have CV := Lib.hid cv
  unfold GivesV at c1
  rw [hr] at c1
  have C1 := Lib.hid c1
  rw [← hl, hw] at e1
  rw [← hl, hh] at e2
  have d1 : decide (64 < lw) = false := decide_eq_false h64
  have d2 : decide (64 < lh) = false := decide_eq_false k64
  clear c1 cv B0 B1 z2 hl ht
  go_enter Try.func5, Try.ntmps5
  obtain ⟨X, Y, hX, hY, hXY0⟩ := nearest_in (u := u) (v := v) hcan (.inr fun q => x3 ((congrFun hr 3).symm.trans (q 3 (by omega))))
  have hXY := fun i => (hXY0 i).trans (congrFun hr i)
  rw [hw] at hX
  rw [hh] at hY
  have C2 := Lib.hid (fun x y W R => stexel_b (some ⟨bb, off, none⟩) n c ts (edg s) x y 0 W R hn)
  unfold GivesV at C2
  have HXY := Lib.hid hXY
  clear hXY0 hXY hr hw hh hcan R hn
  go_wp2_with (first | ((with_reducible refine sloadN smpT S0 ?_ ?_); focus rfl) | (go_at_call 17; (with_reducible refine (C1.out _ J1).mono ?_); rintro _ V1 ⟨rfl, B⟩; replace BB := bon BB B; replace a0 := cell_below B a0; replace S0 := smp_below B S0; replace e1 := cell_below B e1; replace e2 := cell_below B e2; replace J1 := RdI.on J1 B; clear B) | (go_at_call 15; (with_reducible refine (CV.out _).mono ?_); rintro _ V4 ⟨rfl, B⟩; replace BB := bon BB B; replace a0 := cell_below B a0; replace S0 := smp_below B S0; replace e1 := cell_below B e1; replace e2 := cell_below B e2; replace v0 := cell_below B v0; replace v1 := cell_below B v1; replace v2 := cell_below B v2; replace v3 := cell_below B v3; replace J1 := RdI.on J1 B; clear B) | (go_at_call 14; (with_reducible refine (CE.out _).mono ?_); rintro _ V3 ⟨rfl, B⟩; replace BB := bon BB B; replace a0 := cell_below B a0; replace S0 := smp_below B S0; replace e1 := cell_below B e1; replace e2 := cell_below B e2; replace v0 := cell_below B v0; replace v1 := cell_below B v1; replace v2 := cell_below B v2; replace v3 := cell_below B v3; replace J1 := RdI.on J1 B; clear B) | ((with_reducible refine storeN ?_); refine wpList_vset rfl _ _ _ rfl _ _ _ _ rfl rfl (VBox.made _ 0 0 0 0 _) (by kernel_rfl) ?_; intro V2 B2 D3 hD hz; have B : Below V1.heap.size V1 V2 := (box_below V1 _ _).trans B2; replace BB := bon BB B; replace a0 := cell_below B a0; replace S0 := smp_below B S0; replace e1 := cell_below B e1; replace e2 := cell_below B e2; replace J1 := RdI.on J1 B; obtain ⟨v0, v1, v2, v3⟩ := D3.1; clear B B2 D3 hD hz) | ((with_reducible refine storeN ?_); refine wpList_sset rfl _ _ _ rfl s rfl rfl (SBox.made _ (fun _ => 0) _) (by kernel_rfl) ?_; intro V5 E5 B5 _ _) | ((with_reducible refine storeN ?_); refine wpList_sset1 rfl _ _ _ rfl E5 (fun i => if i = 0 then 3 else s i) rfl (fun i hi => if_neg hi) rfl rfl (by omega) (by kernel_rfl) ?_; intro V6 E6 B6 _ _) | ((with_reducible refine storeN ?_); refine wpList_sset1 rfl _ _ _ rfl E6 (edg s) rfl (fun i hi => by unfold edg; simp [hi]) rfl rfl (by omega) (by kernel_rfl) ?_; intro V7 E7 B7 _ _; have B : Below V4.heap.size V4 V7 := (((box_below V4 _ _).trans B5).trans B6).trans B7; replace BB := bon BB B; replace a0 := cell_below B a0; replace S0 := smp_below B S0; replace e1 := cell_below B e1; replace e2 := cell_below B e2; replace v0 := cell_below B v0; replace v1 := cell_below B v1; replace v2 := cell_below B v2; replace v3 := cell_below B v3; replace J1 := RdI.on J1 B; have S1 := E7.1; clear B B5 B6 B7 E5 E6 E7))
  replace v0 : V7.cell? ⟨V1.heap.size, 0, none⟩ = some (.int .i64 (r 0)) := v0.trans (congrArg (fun z => some (Value.int .i64 z)) (by omega))
  replace v1 : V7.cell? ⟨V1.heap.size, 1, none⟩ = some (.int .i64 (r 1)) := v1.trans (congrArg (fun z => some (Value.int .i64 z)) (by omega))
  replace v2 : V7.cell? ⟨V1.heap.size, 2, none⟩ = some (.int .i64 (r 2)) := v2.trans (congrArg (fun z => some (Value.int .i64 z)) (by omega))
  replace v3 : V7.cell? ⟨V1.heap.size, 3, none⟩ = some (.int .i64 (r 3)) := v3.trans (congrArg (fun z => some (Value.int .i64 z)) (by omega))
  clear y0 y1 y2 m0 x0 x1 x2 x3
  generalize V1.heap.size = bv at *
  generalize V4.heap.size = bs at *
  clear S0 p0 p1 p2 p3 C1 CV
  go_loopw [9] (fun i wr => ∃ j : Nat, i = .int .i64 j ∧ j ≤ Y ∧ wr.cell? ⟨w.heap.size, 0, none⟩ = some (.slice (some ⟨bb, off, none⟩) n c) ∧ wr.cell? ⟨bb, off + 1, none⟩ = some (.int .i64 lw) ∧ wr.cell? ⟨bb, off + 2, none⟩ = some (.int .i64 lh) ∧ wr.cell? ⟨bv, 0, none⟩ = some (.int .i64 (r 0)) ∧ wr.cell? ⟨bv, 1, none⟩ = some (.int .i64 (r 1)) ∧ wr.cell? ⟨bv, 2, none⟩ = some (.int .i64 (r 2)) ∧ wr.cell? ⟨bv, 3, none⟩ = some (.int .i64 (r 3)) ∧ (∀ i, i < 12 → wr.cell? ⟨bs, i, none⟩ = some (.int .i64 ((edg s) i))) ∧ RdI wr wr.heap.size (some ⟨bb, off, none⟩) n ts ∧ Below w.heap.size w wr) (fun i _ => Y + 1 - (intOf i).toNat)
  case atStart => exact ⟨0, rfl, by omega, a0, e1, e2, v0, v1, v2, v3, S1, J1, BB⟩
  case round =>
    clear a0 e1 e2 v0 v1 v2 v3 S1 J1 BB
    obtain ⟨j, rfl, hj, a0, e1, e2, v0, v1, v2, v3, S1, J1, BB⟩ := hrel
    have hjh : (j : Int) < lh := by omega
    go_wp2
    go_loopw [10] (fun i wr => ∃ q : Nat, i = .int .i64 q ∧ (q : Int) ≤ lw ∧ (j = Y → q ≤ X) ∧ wr.cell? ⟨w.heap.size, 0, none⟩ = some (.slice (some ⟨bb, off, none⟩) n c) ∧ wr.cell? ⟨bb, off + 1, none⟩ = some (.int .i64 lw) ∧ wr.cell? ⟨bb, off + 2, none⟩ = some (.int .i64 lh) ∧ wr.cell? ⟨bv, 0, none⟩ = some (.int .i64 (r 0)) ∧ wr.cell? ⟨bv, 1, none⟩ = some (.int .i64 (r 1)) ∧ wr.cell? ⟨bv, 2, none⟩ = some (.int .i64 (r 2)) ∧ wr.cell? ⟨bv, 3, none⟩ = some (.int .i64 (r 3)) ∧ (∀ i, i < 12 → wr.cell? ⟨bs, i, none⟩ = some (.int .i64 ((edg s) i))) ∧ RdI wr wr.heap.size (some ⟨bb, off, none⟩) n ts ∧ Below w.heap.size w wr) (fun i _ => lw.toNat - (intOf i).toNat)
    case atStart => exact ⟨0, rfl, by omega, fun _ => by omega, a0, e1, e2, v0, v1, v2, v3, S1, J1, BB⟩
    case round =>
      clear a0 e1 e2 v0 v1 v2 v3 S1 J1 BB
      obtain ⟨q, rfl, hq, hqX, a0, e1, e2, v0, v1, v2, v3, S1, J1, BB⟩ := hrel
      by_cases hql : (q : Int) < lw
      · obtain ⟨z, hz⟩ : ∃ z, stx ts (edg s) q j 0 = z := ⟨_, rfl⟩
        have c3 := C2.out (q : Int) (j : Int)
        rw [hz] at c3
        have C3 := Lib.hid c3
        clear c3
        by_cases hall : ∀ i, i < 4 → z i = r i
        · rw [hall 0 (by omega), hall 1 (by omega), hall 2 (by omega), hall 3 (by omega)] at C3
          clear hall hz hqX C2 HXY
          go_wp2
          have k_a0 := cell_regrown a0
          have k_e1 := cell_regrown e1
          have k_e2 := cell_regrown e2
          have k_v0 := cell_regrown v0
          have k_v1 := cell_regrown v1
          have k_v2 := cell_regrown v2
          have k_v3 := cell_regrown v3
          have k_S1 := smp_regrown S1
          refine wp_region_quiet_below (by kernel_rfl) (by kernel_rfl) ?_
          repeat (first | (go_big_quiet_want; refine quiet_sload _ _ rfl smpT (fun W hW => smp_class S1 hW) rfl ?_; go_simp; go_big_quiet_on) | (go_big_quiet_want; refine quiet_bload _ _ rfl bordT (fun W hW => smp_class S1 hW) rfl ?_; go_simp; go_big_quiet_on) | go_big_quiet_step ((first | (go_at_call 18; with_reducible exact Calls.regrown_of (C3.out _ (J1.on (below_regrown _ _ _)))))) | quiet_step ((first | (go_at_call 18; with_reducible exact Calls.regrown_of (C3.out _ (J1.on (below_regrown _ _ _)))))))
          refine wpQuiet_nil ?_
          intro W hw'
          have B := below_regrown' hw'
          clear hw' k_a0 k_e1 k_e2 k_v0 k_v1 k_v2 k_v3 k_S1
          replace BB := bon BB B
          replace a0 := cell_below B a0
          replace e1 := cell_below B e1
          replace e2 := cell_below B e2
          replace v0 := cell_below B v0
          replace v1 := cell_below B v1
          replace v2 := cell_below B v2
          replace v3 := cell_below B v3
          replace S1 := smp_below B S1
          replace J1 := RdI.on J1 B
          go_wp2_with (go_at_call 14; (with_reducible refine (CE.out _).mono ?_); rintro _ V3 ⟨rfl, B⟩; (replace BB := bon BB B; replace a0 := cell_below B a0; replace e1 := cell_below B e1; replace e2 := cell_below B e2; replace v0 := cell_below B v0; replace v1 := cell_below B v1; replace v2 := cell_below B v2; replace v3 := cell_below B v3; replace S1 := smp_below B S1; replace J1 := RdI.on J1 B); clear B)
          go_ret
          exact ⟨rfl, BB⟩
        · have hne : j = Y → q < X := by
            intro hy
            rcases Nat.lt_or_ge q X with h | h
            · exact h
            · exfalso
              obtain rfl : q = X := by have := hqX hy; omega
              subst hy
              exact hall fun i _ => by rw [← hz]; exact HXY.out i
          have hd : ¬ z 0 = r 0 ∨ (z 0 = r 0 ∧ ¬ z 1 = r 1) ∨ (z 0 = r 0 ∧ z 1 = r 1 ∧ ¬ z 2 = r 2) ∨ (z 0 = r 0 ∧ z 1 = r 1 ∧ z 2 = r 2 ∧ ¬ z 3 = r 3) := by
            by_cases k0 : z 0 = r 0
            · by_cases k1 : z 1 = r 1
              · by_cases k2 : z 2 = r 2
                · by_cases k3 : z 3 = r 3
                  · exact absurd (fun i (hi : i < 4) => (match i, hi with | 0, _ => k0 | 1, _ => k1 | 2, _ => k2 | 3, _ => k3 : z i = r i)) hall
                  · exact .inr (.inr (.inr ⟨k0, k1, k2, k3⟩))
                · exact .inr (.inr (.inl ⟨k0, k1, k2⟩))
              · exact .inr (.inl ⟨k0, k1⟩)
            · exact .inl k0
          clear hall hz hqX C2 HXY
          rcases hd with k0 | ⟨k0, k1⟩ | ⟨k0, k1, k2⟩ | ⟨k0, k1, k2, k3⟩
          · skip
            go_wp2
            have k_a0 := cell_regrown a0
            have k_e1 := cell_regrown e1
            have k_e2 := cell_regrown e2
            have k_v0 := cell_regrown v0
            have k_v1 := cell_regrown v1
            have k_v2 := cell_regrown v2
            have k_v3 := cell_regrown v3
            have k_S1 := smp_regrown S1
            refine wp_region_quiet_below (by kernel_rfl) (by kernel_rfl) ?_
            repeat (first | (go_big_quiet_want; refine quiet_sload _ _ rfl smpT (fun W hW => smp_class S1 hW) rfl ?_; go_simp; go_big_quiet_on) | (go_big_quiet_want; refine quiet_bload _ _ rfl bordT (fun W hW => smp_class S1 hW) rfl ?_; go_simp; go_big_quiet_on) | go_big_quiet_step ((first | (go_at_call 18; with_reducible exact Calls.regrown_of (C3.out _ (J1.on (below_regrown _ _ _)))))) | quiet_step ((first | (go_at_call 18; with_reducible exact Calls.regrown_of (C3.out _ (J1.on (below_regrown _ _ _)))))))
            refine wpQuiet_nil ?_
            intro W hw'
            have B := below_regrown' hw'
            clear hw' k_a0 k_e1 k_e2 k_v0 k_v1 k_v2 k_v3 k_S1
            replace BB := bon BB B
            replace a0 := cell_below B a0
            replace e1 := cell_below B e1
            replace e2 := cell_below B e2
            replace v0 := cell_below B v0
            replace v1 := cell_below B v1
            replace v2 := cell_below B v2
            replace v3 := cell_below B v3
            replace S1 := smp_below B S1
            replace J1 := RdI.on J1 B
            go_wp2
            go_roundw
            case rel => exact ⟨q + 1, by go_num, by omega, fun h => by have := hne h; omega, a0, e1, e2, v0, v1, v2, v3, S1, J1, BB⟩
            case measure => simp [intOf]; omega
          · rw [k0] at C3
            go_wp2
            have k_a0 := cell_regrown a0
            have k_e1 := cell_regrown e1
            have k_e2 := cell_regrown e2
            have k_v0 := cell_regrown v0
            have k_v1 := cell_regrown v1
            have k_v2 := cell_regrown v2
            have k_v3 := cell_regrown v3
            have k_S1 := smp_regrown S1
            refine wp_region_quiet_below (by kernel_rfl) (by kernel_rfl) ?_
            repeat (first | (go_big_quiet_want; refine quiet_sload _ _ rfl smpT (fun W hW => smp_class S1 hW) rfl ?_; go_simp; go_big_quiet_on) | (go_big_quiet_want; refine quiet_bload _ _ rfl bordT (fun W hW => smp_class S1 hW) rfl ?_; go_simp; go_big_quiet_on) | go_big_quiet_step ((first | (go_at_call 18; with_reducible exact Calls.regrown_of (C3.out _ (J1.on (below_regrown _ _ _)))))) | quiet_step ((first | (go_at_call 18; with_reducible exact Calls.regrown_of (C3.out _ (J1.on (below_regrown _ _ _)))))))
            refine wpQuiet_nil ?_
            intro W hw'
            have B := below_regrown' hw'
            clear hw' k_a0 k_e1 k_e2 k_v0 k_v1 k_v2 k_v3 k_S1
            replace BB := bon BB B
            replace a0 := cell_below B a0
            replace e1 := cell_below B e1
            replace e2 := cell_below B e2
            replace v0 := cell_below B v0
            replace v1 := cell_below B v1
            replace v2 := cell_below B v2
            replace v3 := cell_below B v3
            replace S1 := smp_below B S1
            replace J1 := RdI.on J1 B
            go_wp2
            go_roundw
            case rel => exact ⟨q + 1, by go_num, by omega, fun h => by have := hne h; omega, a0, e1, e2, v0, v1, v2, v3, S1, J1, BB⟩
            case measure => simp [intOf]; omega
          · rw [k0, k1] at C3
            go_wp2
            have k_a0 := cell_regrown a0
            have k_e1 := cell_regrown e1
            have k_e2 := cell_regrown e2
            have k_v0 := cell_regrown v0
            have k_v1 := cell_regrown v1
            have k_v2 := cell_regrown v2
            have k_v3 := cell_regrown v3
            have k_S1 := smp_regrown S1
            refine wp_region_quiet_below (by kernel_rfl) (by kernel_rfl) ?_
            repeat (first | (go_big_quiet_want; refine quiet_sload _ _ rfl smpT (fun W hW => smp_class S1 hW) rfl ?_; go_simp; go_big_quiet_on) | (go_big_quiet_want; refine quiet_bload _ _ rfl bordT (fun W hW => smp_class S1 hW) rfl ?_; go_simp; go_big_quiet_on) | go_big_quiet_step ((first | (go_at_call 18; with_reducible exact Calls.regrown_of (C3.out _ (J1.on (below_regrown _ _ _)))))) | quiet_step ((first | (go_at_call 18; with_reducible exact Calls.regrown_of (C3.out _ (J1.on (below_regrown _ _ _)))))))
            refine wpQuiet_nil ?_
            intro W hw'
            have B := below_regrown' hw'
            clear hw' k_a0 k_e1 k_e2 k_v0 k_v1 k_v2 k_v3 k_S1
            replace BB := bon BB B
            replace a0 := cell_below B a0
            replace e1 := cell_below B e1
            replace e2 := cell_below B e2
            replace v0 := cell_below B v0
            replace v1 := cell_below B v1
            replace v2 := cell_below B v2
            replace v3 := cell_below B v3
            replace S1 := smp_below B S1
            replace J1 := RdI.on J1 B
            go_wp2
            go_roundw
            case rel => exact ⟨q + 1, by go_num, by omega, fun h => by have := hne h; omega, a0, e1, e2, v0, v1, v2, v3, S1, J1, BB⟩
            case measure => simp [intOf]; omega
          · rw [k0, k1, k2] at C3
            go_wp2
            have k_a0 := cell_regrown a0
            have k_e1 := cell_regrown e1
            have k_e2 := cell_regrown e2
            have k_v0 := cell_regrown v0
            have k_v1 := cell_regrown v1
            have k_v2 := cell_regrown v2
            have k_v3 := cell_regrown v3
            have k_S1 := smp_regrown S1
            refine wp_region_quiet_below (by kernel_rfl) (by kernel_rfl) ?_
            repeat (first | (go_big_quiet_want; refine quiet_sload _ _ rfl smpT (fun W hW => smp_class S1 hW) rfl ?_; go_simp; go_big_quiet_on) | (go_big_quiet_want; refine quiet_bload _ _ rfl bordT (fun W hW => smp_class S1 hW) rfl ?_; go_simp; go_big_quiet_on) | go_big_quiet_step ((first | (go_at_call 18; with_reducible exact Calls.regrown_of (C3.out _ (J1.on (below_regrown _ _ _)))))) | quiet_step ((first | (go_at_call 18; with_reducible exact Calls.regrown_of (C3.out _ (J1.on (below_regrown _ _ _)))))))
            refine wpQuiet_nil ?_
            intro W hw'
            have B := below_regrown' hw'
            clear hw' k_a0 k_e1 k_e2 k_v0 k_v1 k_v2 k_v3 k_S1
            replace BB := bon BB B
            replace a0 := cell_below B a0
            replace e1 := cell_below B e1
            replace e2 := cell_below B e2
            replace v0 := cell_below B v0
            replace v1 := cell_below B v1
            replace v2 := cell_below B v2
            replace v3 := cell_below B v3
            replace S1 := smp_below B S1
            replace J1 := RdI.on J1 B
            go_wp2
            go_roundw
            case rel => exact ⟨q + 1, by go_num, by omega, fun h => by have := hne h; omega, a0, e1, e2, v0, v1, v2, v3, S1, J1, BB⟩
            case measure => simp [intOf]; omega
      · have hjY : j < Y := by
          rcases Nat.lt_or_ge j Y with h | h
          · exact h
          · exfalso
            have := hqX (by omega)
            omega
        go_wp2
        go_roundw
        case rel => exact ⟨j + 1, by go_num, by omega, a0, e1, e2, v0, v1, v2, v3, S1, J1, BB⟩
        case measure => simp [intOf]; omega

set_option maxRecDepth 100000 in
set_option maxHeartbeats 8000000 in
theorem nearest_2_be (A : Option Addr) (n c : Nat) (ts : List Tx) (s : Nat → Int) (u v k l : Int) (w : World) (R : RdI w w.heap.size A n ts) (hn : n ≤ 9223372036854775807) (h : SV s) (hn0 : 0 < n) (lw lh : Int) (hw : (lvl ts 0).w = lw) (hh : (lvl ts 0).h = lh) (h64 : ¬ 64 < lw) (k64 : ¬ 64 < lh) (r : Nat → Int) (hr : slv ts s u v 0 1 = r) (y0 : r 0 = 0) (y1 : r 1 = 0) (y2 : ¬ r 2 = 0) (m0 : ¬ s 0 = 4) (m1 : s 1 = 4) (x0 : r 0 = s 5) (x1 : r 1 = s 6) (x2 : r 2 = s 7) (x3 : r 3 = s 8) :
    Calls Try.prog 5 #[.agg #[.slice A n c], .agg (smps s), .agg #[.int .i64 u, .int .i64 v, .int .i64 k, .int .i64 l]] w fun e w' => e = .returned (.bool true) ∧ Below w.heap.size w w' := by
  obtain ⟨B0, a0, S0⟩ := args_ts w A n c s 41 27
  obtain ⟨p0, p1, p2, p3, B1⟩ := box4 ((w.alloc (.cells #[.slice A n c] 41)).alloc (.cells (smps s) 27)) (.int .i64 u) (.int .i64 v) (.int .i64 k) (.int .i64 l) 38
  have z2 : ((w.alloc (.cells #[.slice A n c] 41)).alloc (.cells (smps s) 27)).heap.size = w.heap.size + 2 := by simp
  rw [z2] at p0 p1 p2 p3
  replace a0 := cell_below B1 a0
  replace S0 := smp_below B1 S0
  have BB := bon B0 B1
  have J1 := R.on BB
  have CE := Lib.hid (fun W => sexample_b W)
  have cv := fun W => sval_b s W
  have c1 := fun W R => sslv_b A n c ts s u v 0 1 W R hn
  obtain ⟨bb, off, t, rfl, _, TA, _, ht⟩ := J1.at_ hn0
  obtain ⟨_, e1, e2, _⟩ := TA
  simp only [Nat.zero_mul, Nat.add_zero] at e1 e2
  have hl : lvl ts 0 = t.m := by unfold lvl; simp [List.getD, ht]
  have n0 : ¬ (n : Int) = 0 := by omega
  have n00 : ((n : Int) == 0) = false := by simp; omega
  have n1 : ¬ n = 0 := by omega
  rw [decide_eq_true h] at cv
  have CV := Lib.hid cv
  unfold GivesV at c1
  rw [hr] at c1
  have C1 := Lib.hid c1
  rw [← hl, hw] at e1
  rw [← hl, hh] at e2
  have d1 : decide (64 < lw) = false := decide_eq_false h64
  have d2 : decide (64 < lh) = false := decide_eq_false k64
  clear c1 cv B0 B1 z2 hl ht
  go_enter Try.func5, Try.ntmps5
  clear hr hw hh R hn
  go_wp2_with (first | ((with_reducible refine sloadN smpT S0 ?_ ?_); focus rfl) | (go_at_call 17; (with_reducible refine (C1.out _ J1).mono ?_); rintro _ V1 ⟨rfl, B⟩; replace BB := bon BB B; replace a0 := cell_below B a0; replace S0 := smp_below B S0; replace e1 := cell_below B e1; replace e2 := cell_below B e2; replace J1 := RdI.on J1 B; clear B) | (go_at_call 15; (with_reducible refine (CV.out _).mono ?_); rintro _ V4 ⟨rfl, B⟩; replace BB := bon BB B; replace a0 := cell_below B a0; replace S0 := smp_below B S0; replace e1 := cell_below B e1; replace e2 := cell_below B e2; replace v0 := cell_below B v0; replace v1 := cell_below B v1; replace v2 := cell_below B v2; replace v3 := cell_below B v3; replace J1 := RdI.on J1 B; clear B) | (go_at_call 14; (with_reducible refine (CE.out _).mono ?_); rintro _ V3 ⟨rfl, B⟩; replace BB := bon BB B; replace a0 := cell_below B a0; replace S0 := smp_below B S0; replace e1 := cell_below B e1; replace e2 := cell_below B e2; replace v0 := cell_below B v0; replace v1 := cell_below B v1; replace v2 := cell_below B v2; replace v3 := cell_below B v3; replace J1 := RdI.on J1 B; clear B) | ((with_reducible refine storeN ?_); refine wpList_vset rfl _ _ _ rfl _ _ _ _ rfl rfl (VBox.made _ 0 0 0 0 _) (by kernel_rfl) ?_; intro V2 B2 D3 hD hz; have B : Below V1.heap.size V1 V2 := (box_below V1 _ _).trans B2; replace BB := bon BB B; replace a0 := cell_below B a0; replace S0 := smp_below B S0; replace e1 := cell_below B e1; replace e2 := cell_below B e2; replace J1 := RdI.on J1 B; obtain ⟨v0, v1, v2, v3⟩ := D3.1; clear B B2 D3 hD hz) | ((with_reducible refine storeN ?_); refine wpList_sset rfl _ _ _ rfl s rfl rfl (SBox.made _ (fun _ => 0) _) (by kernel_rfl) ?_; intro V5 E5 B5 _ _) | ((with_reducible refine storeN ?_); refine wpList_sset1 rfl _ _ _ rfl E5 (fun i => if i = 0 then 3 else s i) rfl (fun i hi => if_neg hi) rfl rfl (by omega) (by kernel_rfl) ?_; intro V6 E6 B6 _ _) | ((with_reducible refine storeN ?_); refine wpList_sset1 rfl _ _ _ rfl E6 (edg s) rfl (fun i hi => by unfold edg; simp [hi]) rfl rfl (by omega) (by kernel_rfl) ?_; intro V7 E7 B7 _ _; have B : Below V4.heap.size V4 V7 := (((box_below V4 _ _).trans B5).trans B6).trans B7; replace BB := bon BB B; replace a0 := cell_below B a0; replace S0 := smp_below B S0; replace e1 := cell_below B e1; replace e2 := cell_below B e2; replace v0 := cell_below B v0; replace v1 := cell_below B v1; replace v2 := cell_below B v2; replace v3 := cell_below B v3; replace J1 := RdI.on J1 B; have S1 := E7.1; clear B B5 B6 B7 E5 E6 E7))
  go_ret
  exact ⟨rfl, BB⟩

set_option maxRecDepth 100000 in
set_option maxHeartbeats 8000000 in
theorem nearest_2_b0 (A : Option Addr) (n c : Nat) (ts : List Tx) (s : Nat → Int) (u v k l : Int) (w : World) (R : RdI w w.heap.size A n ts) (hn : n ≤ 9223372036854775807) (h : SV s) (hn0 : 0 < n) (lw lh : Int) (hw : (lvl ts 0).w = lw) (hh : (lvl ts 0).h = lh) (h64 : ¬ 64 < lw) (k64 : ¬ 64 < lh) (hcan : can ts s 0) (r : Nat → Int) (hr : slv ts s u v 0 1 = r) (y0 : r 0 = 0) (y1 : r 1 = 0) (y2 : ¬ r 2 = 0) (m0 : ¬ s 0 = 4) (m1 : s 1 = 4) (x0 : ¬ r 0 = s 5) :
    Calls Try.prog 5 #[.agg #[.slice A n c], .agg (smps s), .agg #[.int .i64 u, .int .i64 v, .int .i64 k, .int .i64 l]] w fun e w' => e = .returned (.bool true) ∧ Below w.heap.size w w' := by
  obtain ⟨B0, a0, S0⟩ := args_ts w A n c s 41 27
  obtain ⟨p0, p1, p2, p3, B1⟩ := box4 ((w.alloc (.cells #[.slice A n c] 41)).alloc (.cells (smps s) 27)) (.int .i64 u) (.int .i64 v) (.int .i64 k) (.int .i64 l) 38
  have z2 : ((w.alloc (.cells #[.slice A n c] 41)).alloc (.cells (smps s) 27)).heap.size = w.heap.size + 2 := by simp
  rw [z2] at p0 p1 p2 p3
  replace a0 := cell_below B1 a0
  replace S0 := smp_below B1 S0
  have BB := bon B0 B1
  have J1 := R.on BB
  have CE := Lib.hid (fun W => sexample_b W)
  have cv := fun W => sval_b s W
  have c1 := fun W R => sslv_b A n c ts s u v 0 1 W R hn
  obtain ⟨bb, off, t, rfl, _, TA, _, ht⟩ := J1.at_ hn0
  obtain ⟨_, e1, e2, _⟩ := TA
  simp only [Nat.zero_mul, Nat.add_zero] at e1 e2
  have hl : lvl ts 0 = t.m := by unfold lvl; simp [List.getD, ht]
  have n0 : ¬ (n : Int) = 0 := by omega
  have n00 : ((n : Int) == 0) = false := by simp; omega
  have n1 : ¬ n = 0 := by omega
  rw [decide_eq_true h] at cv
  have CV := Lib.hid cv
  unfold GivesV at c1
  rw [hr] at c1
  have C1 := Lib.hid c1
  rw [← hl, hw] at e1
  rw [← hl, hh] at e2
  have d1 : decide (64 < lw) = false := decide_eq_false h64
  have d2 : decide (64 < lh) = false := decide_eq_false k64
  clear c1 cv B0 B1 z2 hl ht
  go_enter Try.func5, Try.ntmps5
  obtain ⟨X, Y, hX, hY, hXY0⟩ := nearest_in (u := u) (v := v) hcan (.inr fun q => x0 ((congrFun hr 0).symm.trans (q 0 (by omega))))
  have hXY := fun i => (hXY0 i).trans (congrFun hr i)
  rw [hw] at hX
  rw [hh] at hY
  have C2 := Lib.hid (fun x y W R => stexel_b (some ⟨bb, off, none⟩) n c ts (edg s) x y 0 W R hn)
  unfold GivesV at C2
  have HXY := Lib.hid hXY
  clear hXY0 hXY hr hw hh hcan R hn
  go_wp2_with (first | ((with_reducible refine sloadN smpT S0 ?_ ?_); focus rfl) | (go_at_call 17; (with_reducible refine (C1.out _ J1).mono ?_); rintro _ V1 ⟨rfl, B⟩; replace BB := bon BB B; replace a0 := cell_below B a0; replace S0 := smp_below B S0; replace e1 := cell_below B e1; replace e2 := cell_below B e2; replace J1 := RdI.on J1 B; clear B) | (go_at_call 15; (with_reducible refine (CV.out _).mono ?_); rintro _ V4 ⟨rfl, B⟩; replace BB := bon BB B; replace a0 := cell_below B a0; replace S0 := smp_below B S0; replace e1 := cell_below B e1; replace e2 := cell_below B e2; replace v0 := cell_below B v0; replace v1 := cell_below B v1; replace v2 := cell_below B v2; replace v3 := cell_below B v3; replace J1 := RdI.on J1 B; clear B) | (go_at_call 14; (with_reducible refine (CE.out _).mono ?_); rintro _ V3 ⟨rfl, B⟩; replace BB := bon BB B; replace a0 := cell_below B a0; replace S0 := smp_below B S0; replace e1 := cell_below B e1; replace e2 := cell_below B e2; replace v0 := cell_below B v0; replace v1 := cell_below B v1; replace v2 := cell_below B v2; replace v3 := cell_below B v3; replace J1 := RdI.on J1 B; clear B) | ((with_reducible refine storeN ?_); refine wpList_vset rfl _ _ _ rfl _ _ _ _ rfl rfl (VBox.made _ 0 0 0 0 _) (by kernel_rfl) ?_; intro V2 B2 D3 hD hz; have B : Below V1.heap.size V1 V2 := (box_below V1 _ _).trans B2; replace BB := bon BB B; replace a0 := cell_below B a0; replace S0 := smp_below B S0; replace e1 := cell_below B e1; replace e2 := cell_below B e2; replace J1 := RdI.on J1 B; obtain ⟨v0, v1, v2, v3⟩ := D3.1; clear B B2 D3 hD hz) | ((with_reducible refine storeN ?_); refine wpList_sset rfl _ _ _ rfl s rfl rfl (SBox.made _ (fun _ => 0) _) (by kernel_rfl) ?_; intro V5 E5 B5 _ _) | ((with_reducible refine storeN ?_); refine wpList_sset1 rfl _ _ _ rfl E5 (fun i => if i = 0 then 3 else s i) rfl (fun i hi => if_neg hi) rfl rfl (by omega) (by kernel_rfl) ?_; intro V6 E6 B6 _ _) | ((with_reducible refine storeN ?_); refine wpList_sset1 rfl _ _ _ rfl E6 (edg s) rfl (fun i hi => by unfold edg; simp [hi]) rfl rfl (by omega) (by kernel_rfl) ?_; intro V7 E7 B7 _ _; have B : Below V4.heap.size V4 V7 := (((box_below V4 _ _).trans B5).trans B6).trans B7; replace BB := bon BB B; replace a0 := cell_below B a0; replace S0 := smp_below B S0; replace e1 := cell_below B e1; replace e2 := cell_below B e2; replace v0 := cell_below B v0; replace v1 := cell_below B v1; replace v2 := cell_below B v2; replace v3 := cell_below B v3; replace J1 := RdI.on J1 B; have S1 := E7.1; clear B B5 B6 B7 E5 E6 E7))
  replace v0 : V7.cell? ⟨V1.heap.size, 0, none⟩ = some (.int .i64 (r 0)) := v0.trans (congrArg (fun z => some (Value.int .i64 z)) (by omega))
  replace v1 : V7.cell? ⟨V1.heap.size, 1, none⟩ = some (.int .i64 (r 1)) := v1.trans (congrArg (fun z => some (Value.int .i64 z)) (by omega))
  replace v2 : V7.cell? ⟨V1.heap.size, 2, none⟩ = some (.int .i64 (r 2)) := v2.trans (congrArg (fun z => some (Value.int .i64 z)) (by omega))
  replace v3 : V7.cell? ⟨V1.heap.size, 3, none⟩ = some (.int .i64 (r 3)) := v3.trans (congrArg (fun z => some (Value.int .i64 z)) (by omega))
  clear y0 y1 y2 m0 m1 x0
  generalize V1.heap.size = bv at *
  generalize V4.heap.size = bs at *
  clear S0 p0 p1 p2 p3 C1 CV
  go_loopw [9] (fun i wr => ∃ j : Nat, i = .int .i64 j ∧ j ≤ Y ∧ wr.cell? ⟨w.heap.size, 0, none⟩ = some (.slice (some ⟨bb, off, none⟩) n c) ∧ wr.cell? ⟨bb, off + 1, none⟩ = some (.int .i64 lw) ∧ wr.cell? ⟨bb, off + 2, none⟩ = some (.int .i64 lh) ∧ wr.cell? ⟨bv, 0, none⟩ = some (.int .i64 (r 0)) ∧ wr.cell? ⟨bv, 1, none⟩ = some (.int .i64 (r 1)) ∧ wr.cell? ⟨bv, 2, none⟩ = some (.int .i64 (r 2)) ∧ wr.cell? ⟨bv, 3, none⟩ = some (.int .i64 (r 3)) ∧ (∀ i, i < 12 → wr.cell? ⟨bs, i, none⟩ = some (.int .i64 ((edg s) i))) ∧ RdI wr wr.heap.size (some ⟨bb, off, none⟩) n ts ∧ Below w.heap.size w wr) (fun i _ => Y + 1 - (intOf i).toNat)
  case atStart => exact ⟨0, rfl, by omega, a0, e1, e2, v0, v1, v2, v3, S1, J1, BB⟩
  case round =>
    clear a0 e1 e2 v0 v1 v2 v3 S1 J1 BB
    obtain ⟨j, rfl, hj, a0, e1, e2, v0, v1, v2, v3, S1, J1, BB⟩ := hrel
    have hjh : (j : Int) < lh := by omega
    go_wp2
    go_loopw [10] (fun i wr => ∃ q : Nat, i = .int .i64 q ∧ (q : Int) ≤ lw ∧ (j = Y → q ≤ X) ∧ wr.cell? ⟨w.heap.size, 0, none⟩ = some (.slice (some ⟨bb, off, none⟩) n c) ∧ wr.cell? ⟨bb, off + 1, none⟩ = some (.int .i64 lw) ∧ wr.cell? ⟨bb, off + 2, none⟩ = some (.int .i64 lh) ∧ wr.cell? ⟨bv, 0, none⟩ = some (.int .i64 (r 0)) ∧ wr.cell? ⟨bv, 1, none⟩ = some (.int .i64 (r 1)) ∧ wr.cell? ⟨bv, 2, none⟩ = some (.int .i64 (r 2)) ∧ wr.cell? ⟨bv, 3, none⟩ = some (.int .i64 (r 3)) ∧ (∀ i, i < 12 → wr.cell? ⟨bs, i, none⟩ = some (.int .i64 ((edg s) i))) ∧ RdI wr wr.heap.size (some ⟨bb, off, none⟩) n ts ∧ Below w.heap.size w wr) (fun i _ => lw.toNat - (intOf i).toNat)
    case atStart => exact ⟨0, rfl, by omega, fun _ => by omega, a0, e1, e2, v0, v1, v2, v3, S1, J1, BB⟩
    case round =>
      clear a0 e1 e2 v0 v1 v2 v3 S1 J1 BB
      obtain ⟨q, rfl, hq, hqX, a0, e1, e2, v0, v1, v2, v3, S1, J1, BB⟩ := hrel
      by_cases hql : (q : Int) < lw
      · obtain ⟨z, hz⟩ : ∃ z, stx ts (edg s) q j 0 = z := ⟨_, rfl⟩
        have c3 := C2.out (q : Int) (j : Int)
        rw [hz] at c3
        have C3 := Lib.hid c3
        clear c3
        by_cases hall : ∀ i, i < 4 → z i = r i
        · rw [hall 0 (by omega), hall 1 (by omega), hall 2 (by omega), hall 3 (by omega)] at C3
          clear hall hz hqX C2 HXY
          go_wp2
          have k_a0 := cell_regrown a0
          have k_e1 := cell_regrown e1
          have k_e2 := cell_regrown e2
          have k_v0 := cell_regrown v0
          have k_v1 := cell_regrown v1
          have k_v2 := cell_regrown v2
          have k_v3 := cell_regrown v3
          have k_S1 := smp_regrown S1
          refine wp_region_quiet_below (by kernel_rfl) (by kernel_rfl) ?_
          repeat (first | (go_big_quiet_want; refine quiet_sload _ _ rfl smpT (fun W hW => smp_class S1 hW) rfl ?_; go_simp; go_big_quiet_on) | (go_big_quiet_want; refine quiet_bload _ _ rfl bordT (fun W hW => smp_class S1 hW) rfl ?_; go_simp; go_big_quiet_on) | go_big_quiet_step ((first | (go_at_call 18; with_reducible exact Calls.regrown_of (C3.out _ (J1.on (below_regrown _ _ _)))))) | quiet_step ((first | (go_at_call 18; with_reducible exact Calls.regrown_of (C3.out _ (J1.on (below_regrown _ _ _)))))))
          refine wpQuiet_nil ?_
          intro W hw'
          have B := below_regrown' hw'
          clear hw' k_a0 k_e1 k_e2 k_v0 k_v1 k_v2 k_v3 k_S1
          replace BB := bon BB B
          replace a0 := cell_below B a0
          replace e1 := cell_below B e1
          replace e2 := cell_below B e2
          replace v0 := cell_below B v0
          replace v1 := cell_below B v1
          replace v2 := cell_below B v2
          replace v3 := cell_below B v3
          replace S1 := smp_below B S1
          replace J1 := RdI.on J1 B
          go_wp2_with (go_at_call 14; (with_reducible refine (CE.out _).mono ?_); rintro _ V3 ⟨rfl, B⟩; (replace BB := bon BB B; replace a0 := cell_below B a0; replace e1 := cell_below B e1; replace e2 := cell_below B e2; replace v0 := cell_below B v0; replace v1 := cell_below B v1; replace v2 := cell_below B v2; replace v3 := cell_below B v3; replace S1 := smp_below B S1; replace J1 := RdI.on J1 B); clear B)
          go_ret
          exact ⟨rfl, BB⟩
        · have hne : j = Y → q < X := by
            intro hy
            rcases Nat.lt_or_ge q X with h | h
            · exact h
            · exfalso
              obtain rfl : q = X := by have := hqX hy; omega
              subst hy
              exact hall fun i _ => by rw [← hz]; exact HXY.out i
          have hd : ¬ z 0 = r 0 ∨ (z 0 = r 0 ∧ ¬ z 1 = r 1) ∨ (z 0 = r 0 ∧ z 1 = r 1 ∧ ¬ z 2 = r 2) ∨ (z 0 = r 0 ∧ z 1 = r 1 ∧ z 2 = r 2 ∧ ¬ z 3 = r 3) := by
            by_cases k0 : z 0 = r 0
            · by_cases k1 : z 1 = r 1
              · by_cases k2 : z 2 = r 2
                · by_cases k3 : z 3 = r 3
                  · exact absurd (fun i (hi : i < 4) => (match i, hi with | 0, _ => k0 | 1, _ => k1 | 2, _ => k2 | 3, _ => k3 : z i = r i)) hall
                  · exact .inr (.inr (.inr ⟨k0, k1, k2, k3⟩))
                · exact .inr (.inr (.inl ⟨k0, k1, k2⟩))
              · exact .inr (.inl ⟨k0, k1⟩)
            · exact .inl k0
          clear hall hz hqX C2 HXY
          rcases hd with k0 | ⟨k0, k1⟩ | ⟨k0, k1, k2⟩ | ⟨k0, k1, k2, k3⟩
          · skip
            go_wp2
            have k_a0 := cell_regrown a0
            have k_e1 := cell_regrown e1
            have k_e2 := cell_regrown e2
            have k_v0 := cell_regrown v0
            have k_v1 := cell_regrown v1
            have k_v2 := cell_regrown v2
            have k_v3 := cell_regrown v3
            have k_S1 := smp_regrown S1
            refine wp_region_quiet_below (by kernel_rfl) (by kernel_rfl) ?_
            repeat (first | (go_big_quiet_want; refine quiet_sload _ _ rfl smpT (fun W hW => smp_class S1 hW) rfl ?_; go_simp; go_big_quiet_on) | (go_big_quiet_want; refine quiet_bload _ _ rfl bordT (fun W hW => smp_class S1 hW) rfl ?_; go_simp; go_big_quiet_on) | go_big_quiet_step ((first | (go_at_call 18; with_reducible exact Calls.regrown_of (C3.out _ (J1.on (below_regrown _ _ _)))))) | quiet_step ((first | (go_at_call 18; with_reducible exact Calls.regrown_of (C3.out _ (J1.on (below_regrown _ _ _)))))))
            refine wpQuiet_nil ?_
            intro W hw'
            have B := below_regrown' hw'
            clear hw' k_a0 k_e1 k_e2 k_v0 k_v1 k_v2 k_v3 k_S1
            replace BB := bon BB B
            replace a0 := cell_below B a0
            replace e1 := cell_below B e1
            replace e2 := cell_below B e2
            replace v0 := cell_below B v0
            replace v1 := cell_below B v1
            replace v2 := cell_below B v2
            replace v3 := cell_below B v3
            replace S1 := smp_below B S1
            replace J1 := RdI.on J1 B
            go_wp2
            go_roundw
            case rel => exact ⟨q + 1, by go_num, by omega, fun h => by have := hne h; omega, a0, e1, e2, v0, v1, v2, v3, S1, J1, BB⟩
            case measure => simp [intOf]; omega
          · rw [k0] at C3
            go_wp2
            have k_a0 := cell_regrown a0
            have k_e1 := cell_regrown e1
            have k_e2 := cell_regrown e2
            have k_v0 := cell_regrown v0
            have k_v1 := cell_regrown v1
            have k_v2 := cell_regrown v2
            have k_v3 := cell_regrown v3
            have k_S1 := smp_regrown S1
            refine wp_region_quiet_below (by kernel_rfl) (by kernel_rfl) ?_
            repeat (first | (go_big_quiet_want; refine quiet_sload _ _ rfl smpT (fun W hW => smp_class S1 hW) rfl ?_; go_simp; go_big_quiet_on) | (go_big_quiet_want; refine quiet_bload _ _ rfl bordT (fun W hW => smp_class S1 hW) rfl ?_; go_simp; go_big_quiet_on) | go_big_quiet_step ((first | (go_at_call 18; with_reducible exact Calls.regrown_of (C3.out _ (J1.on (below_regrown _ _ _)))))) | quiet_step ((first | (go_at_call 18; with_reducible exact Calls.regrown_of (C3.out _ (J1.on (below_regrown _ _ _)))))))
            refine wpQuiet_nil ?_
            intro W hw'
            have B := below_regrown' hw'
            clear hw' k_a0 k_e1 k_e2 k_v0 k_v1 k_v2 k_v3 k_S1
            replace BB := bon BB B
            replace a0 := cell_below B a0
            replace e1 := cell_below B e1
            replace e2 := cell_below B e2
            replace v0 := cell_below B v0
            replace v1 := cell_below B v1
            replace v2 := cell_below B v2
            replace v3 := cell_below B v3
            replace S1 := smp_below B S1
            replace J1 := RdI.on J1 B
            go_wp2
            go_roundw
            case rel => exact ⟨q + 1, by go_num, by omega, fun h => by have := hne h; omega, a0, e1, e2, v0, v1, v2, v3, S1, J1, BB⟩
            case measure => simp [intOf]; omega
          · rw [k0, k1] at C3
            go_wp2
            have k_a0 := cell_regrown a0
            have k_e1 := cell_regrown e1
            have k_e2 := cell_regrown e2
            have k_v0 := cell_regrown v0
            have k_v1 := cell_regrown v1
            have k_v2 := cell_regrown v2
            have k_v3 := cell_regrown v3
            have k_S1 := smp_regrown S1
            refine wp_region_quiet_below (by kernel_rfl) (by kernel_rfl) ?_
            repeat (first | (go_big_quiet_want; refine quiet_sload _ _ rfl smpT (fun W hW => smp_class S1 hW) rfl ?_; go_simp; go_big_quiet_on) | (go_big_quiet_want; refine quiet_bload _ _ rfl bordT (fun W hW => smp_class S1 hW) rfl ?_; go_simp; go_big_quiet_on) | go_big_quiet_step ((first | (go_at_call 18; with_reducible exact Calls.regrown_of (C3.out _ (J1.on (below_regrown _ _ _)))))) | quiet_step ((first | (go_at_call 18; with_reducible exact Calls.regrown_of (C3.out _ (J1.on (below_regrown _ _ _)))))))
            refine wpQuiet_nil ?_
            intro W hw'
            have B := below_regrown' hw'
            clear hw' k_a0 k_e1 k_e2 k_v0 k_v1 k_v2 k_v3 k_S1
            replace BB := bon BB B
            replace a0 := cell_below B a0
            replace e1 := cell_below B e1
            replace e2 := cell_below B e2
            replace v0 := cell_below B v0
            replace v1 := cell_below B v1
            replace v2 := cell_below B v2
            replace v3 := cell_below B v3
            replace S1 := smp_below B S1
            replace J1 := RdI.on J1 B
            go_wp2
            go_roundw
            case rel => exact ⟨q + 1, by go_num, by omega, fun h => by have := hne h; omega, a0, e1, e2, v0, v1, v2, v3, S1, J1, BB⟩
            case measure => simp [intOf]; omega
          · rw [k0, k1, k2] at C3
            go_wp2
            have k_a0 := cell_regrown a0
            have k_e1 := cell_regrown e1
            have k_e2 := cell_regrown e2
            have k_v0 := cell_regrown v0
            have k_v1 := cell_regrown v1
            have k_v2 := cell_regrown v2
            have k_v3 := cell_regrown v3
            have k_S1 := smp_regrown S1
            refine wp_region_quiet_below (by kernel_rfl) (by kernel_rfl) ?_
            repeat (first | (go_big_quiet_want; refine quiet_sload _ _ rfl smpT (fun W hW => smp_class S1 hW) rfl ?_; go_simp; go_big_quiet_on) | (go_big_quiet_want; refine quiet_bload _ _ rfl bordT (fun W hW => smp_class S1 hW) rfl ?_; go_simp; go_big_quiet_on) | go_big_quiet_step ((first | (go_at_call 18; with_reducible exact Calls.regrown_of (C3.out _ (J1.on (below_regrown _ _ _)))))) | quiet_step ((first | (go_at_call 18; with_reducible exact Calls.regrown_of (C3.out _ (J1.on (below_regrown _ _ _)))))))
            refine wpQuiet_nil ?_
            intro W hw'
            have B := below_regrown' hw'
            clear hw' k_a0 k_e1 k_e2 k_v0 k_v1 k_v2 k_v3 k_S1
            replace BB := bon BB B
            replace a0 := cell_below B a0
            replace e1 := cell_below B e1
            replace e2 := cell_below B e2
            replace v0 := cell_below B v0
            replace v1 := cell_below B v1
            replace v2 := cell_below B v2
            replace v3 := cell_below B v3
            replace S1 := smp_below B S1
            replace J1 := RdI.on J1 B
            go_wp2
            go_roundw
            case rel => exact ⟨q + 1, by go_num, by omega, fun h => by have := hne h; omega, a0, e1, e2, v0, v1, v2, v3, S1, J1, BB⟩
            case measure => simp [intOf]; omega
      · have hjY : j < Y := by
          rcases Nat.lt_or_ge j Y with h | h
          · exact h
          · exfalso
            have := hqX (by omega)
            omega
        go_wp2
        go_roundw
        case rel => exact ⟨j + 1, by go_num, by omega, a0, e1, e2, v0, v1, v2, v3, S1, J1, BB⟩
        case measure => simp [intOf]; omega

set_option maxRecDepth 100000 in
set_option maxHeartbeats 8000000 in
theorem nearest_2_b1 (A : Option Addr) (n c : Nat) (ts : List Tx) (s : Nat → Int) (u v k l : Int) (w : World) (R : RdI w w.heap.size A n ts) (hn : n ≤ 9223372036854775807) (h : SV s) (hn0 : 0 < n) (lw lh : Int) (hw : (lvl ts 0).w = lw) (hh : (lvl ts 0).h = lh) (h64 : ¬ 64 < lw) (k64 : ¬ 64 < lh) (hcan : can ts s 0) (r : Nat → Int) (hr : slv ts s u v 0 1 = r) (y0 : r 0 = 0) (y1 : r 1 = 0) (y2 : ¬ r 2 = 0) (m0 : ¬ s 0 = 4) (m1 : s 1 = 4) (x0 : r 0 = s 5) (x1 : ¬ r 1 = s 6) :
    Calls Try.prog 5 #[.agg #[.slice A n c], .agg (smps s), .agg #[.int .i64 u, .int .i64 v, .int .i64 k, .int .i64 l]] w fun e w' => e = .returned (.bool true) ∧ Below w.heap.size w w' := by
  obtain ⟨B0, a0, S0⟩ := args_ts w A n c s 41 27
  obtain ⟨p0, p1, p2, p3, B1⟩ := box4 ((w.alloc (.cells #[.slice A n c] 41)).alloc (.cells (smps s) 27)) (.int .i64 u) (.int .i64 v) (.int .i64 k) (.int .i64 l) 38
  have z2 : ((w.alloc (.cells #[.slice A n c] 41)).alloc (.cells (smps s) 27)).heap.size = w.heap.size + 2 := by simp
  rw [z2] at p0 p1 p2 p3
  replace a0 := cell_below B1 a0
  replace S0 := smp_below B1 S0
  have BB := bon B0 B1
  have J1 := R.on BB
  have CE := Lib.hid (fun W => sexample_b W)
  have cv := fun W => sval_b s W
  have c1 := fun W R => sslv_b A n c ts s u v 0 1 W R hn
  obtain ⟨bb, off, t, rfl, _, TA, _, ht⟩ := J1.at_ hn0
  obtain ⟨_, e1, e2, _⟩ := TA
  simp only [Nat.zero_mul, Nat.add_zero] at e1 e2
  have hl : lvl ts 0 = t.m := by unfold lvl; simp [List.getD, ht]
  have n0 : ¬ (n : Int) = 0 := by omega
  have n00 : ((n : Int) == 0) = false := by simp; omega
  have n1 : ¬ n = 0 := by omega
  rw [decide_eq_true h] at cv
  have CV := Lib.hid cv
  unfold GivesV at c1
  rw [hr] at c1
  have C1 := Lib.hid c1
  rw [← hl, hw] at e1
  rw [← hl, hh] at e2
  have d1 : decide (64 < lw) = false := decide_eq_false h64
  have d2 : decide (64 < lh) = false := decide_eq_false k64
  clear c1 cv B0 B1 z2 hl ht
  go_enter Try.func5, Try.ntmps5
  obtain ⟨X, Y, hX, hY, hXY0⟩ := nearest_in (u := u) (v := v) hcan (.inr fun q => x1 ((congrFun hr 1).symm.trans (q 1 (by omega))))
  have hXY := fun i => (hXY0 i).trans (congrFun hr i)
  rw [hw] at hX
  rw [hh] at hY
  have C2 := Lib.hid (fun x y W R => stexel_b (some ⟨bb, off, none⟩) n c ts (edg s) x y 0 W R hn)
  unfold GivesV at C2
  have HXY := Lib.hid hXY
  clear hXY0 hXY hr hw hh hcan R hn
  go_wp2_with (first | ((with_reducible refine sloadN smpT S0 ?_ ?_); focus rfl) | (go_at_call 17; (with_reducible refine (C1.out _ J1).mono ?_); rintro _ V1 ⟨rfl, B⟩; replace BB := bon BB B; replace a0 := cell_below B a0; replace S0 := smp_below B S0; replace e1 := cell_below B e1; replace e2 := cell_below B e2; replace J1 := RdI.on J1 B; clear B) | (go_at_call 15; (with_reducible refine (CV.out _).mono ?_); rintro _ V4 ⟨rfl, B⟩; replace BB := bon BB B; replace a0 := cell_below B a0; replace S0 := smp_below B S0; replace e1 := cell_below B e1; replace e2 := cell_below B e2; replace v0 := cell_below B v0; replace v1 := cell_below B v1; replace v2 := cell_below B v2; replace v3 := cell_below B v3; replace J1 := RdI.on J1 B; clear B) | (go_at_call 14; (with_reducible refine (CE.out _).mono ?_); rintro _ V3 ⟨rfl, B⟩; replace BB := bon BB B; replace a0 := cell_below B a0; replace S0 := smp_below B S0; replace e1 := cell_below B e1; replace e2 := cell_below B e2; replace v0 := cell_below B v0; replace v1 := cell_below B v1; replace v2 := cell_below B v2; replace v3 := cell_below B v3; replace J1 := RdI.on J1 B; clear B) | ((with_reducible refine storeN ?_); refine wpList_vset rfl _ _ _ rfl _ _ _ _ rfl rfl (VBox.made _ 0 0 0 0 _) (by kernel_rfl) ?_; intro V2 B2 D3 hD hz; have B : Below V1.heap.size V1 V2 := (box_below V1 _ _).trans B2; replace BB := bon BB B; replace a0 := cell_below B a0; replace S0 := smp_below B S0; replace e1 := cell_below B e1; replace e2 := cell_below B e2; replace J1 := RdI.on J1 B; obtain ⟨v0, v1, v2, v3⟩ := D3.1; clear B B2 D3 hD hz) | ((with_reducible refine storeN ?_); refine wpList_sset rfl _ _ _ rfl s rfl rfl (SBox.made _ (fun _ => 0) _) (by kernel_rfl) ?_; intro V5 E5 B5 _ _) | ((with_reducible refine storeN ?_); refine wpList_sset1 rfl _ _ _ rfl E5 (fun i => if i = 0 then 3 else s i) rfl (fun i hi => if_neg hi) rfl rfl (by omega) (by kernel_rfl) ?_; intro V6 E6 B6 _ _) | ((with_reducible refine storeN ?_); refine wpList_sset1 rfl _ _ _ rfl E6 (edg s) rfl (fun i hi => by unfold edg; simp [hi]) rfl rfl (by omega) (by kernel_rfl) ?_; intro V7 E7 B7 _ _; have B : Below V4.heap.size V4 V7 := (((box_below V4 _ _).trans B5).trans B6).trans B7; replace BB := bon BB B; replace a0 := cell_below B a0; replace S0 := smp_below B S0; replace e1 := cell_below B e1; replace e2 := cell_below B e2; replace v0 := cell_below B v0; replace v1 := cell_below B v1; replace v2 := cell_below B v2; replace v3 := cell_below B v3; replace J1 := RdI.on J1 B; have S1 := E7.1; clear B B5 B6 B7 E5 E6 E7))
  replace v0 : V7.cell? ⟨V1.heap.size, 0, none⟩ = some (.int .i64 (r 0)) := v0.trans (congrArg (fun z => some (Value.int .i64 z)) (by omega))
  replace v1 : V7.cell? ⟨V1.heap.size, 1, none⟩ = some (.int .i64 (r 1)) := v1.trans (congrArg (fun z => some (Value.int .i64 z)) (by omega))
  replace v2 : V7.cell? ⟨V1.heap.size, 2, none⟩ = some (.int .i64 (r 2)) := v2.trans (congrArg (fun z => some (Value.int .i64 z)) (by omega))
  replace v3 : V7.cell? ⟨V1.heap.size, 3, none⟩ = some (.int .i64 (r 3)) := v3.trans (congrArg (fun z => some (Value.int .i64 z)) (by omega))
  clear y0 y1 y2 m0 m1 x0 x1
  generalize V1.heap.size = bv at *
  generalize V4.heap.size = bs at *
  clear S0 p0 p1 p2 p3 C1 CV
  go_loopw [9] (fun i wr => ∃ j : Nat, i = .int .i64 j ∧ j ≤ Y ∧ wr.cell? ⟨w.heap.size, 0, none⟩ = some (.slice (some ⟨bb, off, none⟩) n c) ∧ wr.cell? ⟨bb, off + 1, none⟩ = some (.int .i64 lw) ∧ wr.cell? ⟨bb, off + 2, none⟩ = some (.int .i64 lh) ∧ wr.cell? ⟨bv, 0, none⟩ = some (.int .i64 (r 0)) ∧ wr.cell? ⟨bv, 1, none⟩ = some (.int .i64 (r 1)) ∧ wr.cell? ⟨bv, 2, none⟩ = some (.int .i64 (r 2)) ∧ wr.cell? ⟨bv, 3, none⟩ = some (.int .i64 (r 3)) ∧ (∀ i, i < 12 → wr.cell? ⟨bs, i, none⟩ = some (.int .i64 ((edg s) i))) ∧ RdI wr wr.heap.size (some ⟨bb, off, none⟩) n ts ∧ Below w.heap.size w wr) (fun i _ => Y + 1 - (intOf i).toNat)
  case atStart => exact ⟨0, rfl, by omega, a0, e1, e2, v0, v1, v2, v3, S1, J1, BB⟩
  case round =>
    clear a0 e1 e2 v0 v1 v2 v3 S1 J1 BB
    obtain ⟨j, rfl, hj, a0, e1, e2, v0, v1, v2, v3, S1, J1, BB⟩ := hrel
    have hjh : (j : Int) < lh := by omega
    go_wp2
    go_loopw [10] (fun i wr => ∃ q : Nat, i = .int .i64 q ∧ (q : Int) ≤ lw ∧ (j = Y → q ≤ X) ∧ wr.cell? ⟨w.heap.size, 0, none⟩ = some (.slice (some ⟨bb, off, none⟩) n c) ∧ wr.cell? ⟨bb, off + 1, none⟩ = some (.int .i64 lw) ∧ wr.cell? ⟨bb, off + 2, none⟩ = some (.int .i64 lh) ∧ wr.cell? ⟨bv, 0, none⟩ = some (.int .i64 (r 0)) ∧ wr.cell? ⟨bv, 1, none⟩ = some (.int .i64 (r 1)) ∧ wr.cell? ⟨bv, 2, none⟩ = some (.int .i64 (r 2)) ∧ wr.cell? ⟨bv, 3, none⟩ = some (.int .i64 (r 3)) ∧ (∀ i, i < 12 → wr.cell? ⟨bs, i, none⟩ = some (.int .i64 ((edg s) i))) ∧ RdI wr wr.heap.size (some ⟨bb, off, none⟩) n ts ∧ Below w.heap.size w wr) (fun i _ => lw.toNat - (intOf i).toNat)
    case atStart => exact ⟨0, rfl, by omega, fun _ => by omega, a0, e1, e2, v0, v1, v2, v3, S1, J1, BB⟩
    case round =>
      clear a0 e1 e2 v0 v1 v2 v3 S1 J1 BB
      obtain ⟨q, rfl, hq, hqX, a0, e1, e2, v0, v1, v2, v3, S1, J1, BB⟩ := hrel
      by_cases hql : (q : Int) < lw
      · obtain ⟨z, hz⟩ : ∃ z, stx ts (edg s) q j 0 = z := ⟨_, rfl⟩
        have c3 := C2.out (q : Int) (j : Int)
        rw [hz] at c3
        have C3 := Lib.hid c3
        clear c3
        by_cases hall : ∀ i, i < 4 → z i = r i
        · rw [hall 0 (by omega), hall 1 (by omega), hall 2 (by omega), hall 3 (by omega)] at C3
          clear hall hz hqX C2 HXY
          go_wp2
          have k_a0 := cell_regrown a0
          have k_e1 := cell_regrown e1
          have k_e2 := cell_regrown e2
          have k_v0 := cell_regrown v0
          have k_v1 := cell_regrown v1
          have k_v2 := cell_regrown v2
          have k_v3 := cell_regrown v3
          have k_S1 := smp_regrown S1
          refine wp_region_quiet_below (by kernel_rfl) (by kernel_rfl) ?_
          repeat (first | (go_big_quiet_want; refine quiet_sload _ _ rfl smpT (fun W hW => smp_class S1 hW) rfl ?_; go_simp; go_big_quiet_on) | (go_big_quiet_want; refine quiet_bload _ _ rfl bordT (fun W hW => smp_class S1 hW) rfl ?_; go_simp; go_big_quiet_on) | go_big_quiet_step ((first | (go_at_call 18; with_reducible exact Calls.regrown_of (C3.out _ (J1.on (below_regrown _ _ _)))))) | quiet_step ((first | (go_at_call 18; with_reducible exact Calls.regrown_of (C3.out _ (J1.on (below_regrown _ _ _)))))))
          refine wpQuiet_nil ?_
          intro W hw'
          have B := below_regrown' hw'
          clear hw' k_a0 k_e1 k_e2 k_v0 k_v1 k_v2 k_v3 k_S1
          replace BB := bon BB B
          replace a0 := cell_below B a0
          replace e1 := cell_below B e1
          replace e2 := cell_below B e2
          replace v0 := cell_below B v0
          replace v1 := cell_below B v1
          replace v2 := cell_below B v2
          replace v3 := cell_below B v3
          replace S1 := smp_below B S1
          replace J1 := RdI.on J1 B
          go_wp2_with (go_at_call 14; (with_reducible refine (CE.out _).mono ?_); rintro _ V3 ⟨rfl, B⟩; (replace BB := bon BB B; replace a0 := cell_below B a0; replace e1 := cell_below B e1; replace e2 := cell_below B e2; replace v0 := cell_below B v0; replace v1 := cell_below B v1; replace v2 := cell_below B v2; replace v3 := cell_below B v3; replace S1 := smp_below B S1; replace J1 := RdI.on J1 B); clear B)
          go_ret
          exact ⟨rfl, BB⟩
        · have hne : j = Y → q < X := by
            intro hy
            rcases Nat.lt_or_ge q X with h | h
            · exact h
            · exfalso
              obtain rfl : q = X := by have := hqX hy; omega
              subst hy
              exact hall fun i _ => by rw [← hz]; exact HXY.out i
          have hd : ¬ z 0 = r 0 ∨ (z 0 = r 0 ∧ ¬ z 1 = r 1) ∨ (z 0 = r 0 ∧ z 1 = r 1 ∧ ¬ z 2 = r 2) ∨ (z 0 = r 0 ∧ z 1 = r 1 ∧ z 2 = r 2 ∧ ¬ z 3 = r 3) := by
            by_cases k0 : z 0 = r 0
            · by_cases k1 : z 1 = r 1
              · by_cases k2 : z 2 = r 2
                · by_cases k3 : z 3 = r 3
                  · exact absurd (fun i (hi : i < 4) => (match i, hi with | 0, _ => k0 | 1, _ => k1 | 2, _ => k2 | 3, _ => k3 : z i = r i)) hall
                  · exact .inr (.inr (.inr ⟨k0, k1, k2, k3⟩))
                · exact .inr (.inr (.inl ⟨k0, k1, k2⟩))
              · exact .inr (.inl ⟨k0, k1⟩)
            · exact .inl k0
          clear hall hz hqX C2 HXY
          rcases hd with k0 | ⟨k0, k1⟩ | ⟨k0, k1, k2⟩ | ⟨k0, k1, k2, k3⟩
          · skip
            go_wp2
            have k_a0 := cell_regrown a0
            have k_e1 := cell_regrown e1
            have k_e2 := cell_regrown e2
            have k_v0 := cell_regrown v0
            have k_v1 := cell_regrown v1
            have k_v2 := cell_regrown v2
            have k_v3 := cell_regrown v3
            have k_S1 := smp_regrown S1
            refine wp_region_quiet_below (by kernel_rfl) (by kernel_rfl) ?_
            repeat (first | (go_big_quiet_want; refine quiet_sload _ _ rfl smpT (fun W hW => smp_class S1 hW) rfl ?_; go_simp; go_big_quiet_on) | (go_big_quiet_want; refine quiet_bload _ _ rfl bordT (fun W hW => smp_class S1 hW) rfl ?_; go_simp; go_big_quiet_on) | go_big_quiet_step ((first | (go_at_call 18; with_reducible exact Calls.regrown_of (C3.out _ (J1.on (below_regrown _ _ _)))))) | quiet_step ((first | (go_at_call 18; with_reducible exact Calls.regrown_of (C3.out _ (J1.on (below_regrown _ _ _)))))))
            refine wpQuiet_nil ?_
            intro W hw'
            have B := below_regrown' hw'
            clear hw' k_a0 k_e1 k_e2 k_v0 k_v1 k_v2 k_v3 k_S1
            replace BB := bon BB B
            replace a0 := cell_below B a0
            replace e1 := cell_below B e1
            replace e2 := cell_below B e2
            replace v0 := cell_below B v0
            replace v1 := cell_below B v1
            replace v2 := cell_below B v2
            replace v3 := cell_below B v3
            replace S1 := smp_below B S1
            replace J1 := RdI.on J1 B
            go_wp2
            go_roundw
            case rel => exact ⟨q + 1, by go_num, by omega, fun h => by have := hne h; omega, a0, e1, e2, v0, v1, v2, v3, S1, J1, BB⟩
            case measure => simp [intOf]; omega
          · rw [k0] at C3
            go_wp2
            have k_a0 := cell_regrown a0
            have k_e1 := cell_regrown e1
            have k_e2 := cell_regrown e2
            have k_v0 := cell_regrown v0
            have k_v1 := cell_regrown v1
            have k_v2 := cell_regrown v2
            have k_v3 := cell_regrown v3
            have k_S1 := smp_regrown S1
            refine wp_region_quiet_below (by kernel_rfl) (by kernel_rfl) ?_
            repeat (first | (go_big_quiet_want; refine quiet_sload _ _ rfl smpT (fun W hW => smp_class S1 hW) rfl ?_; go_simp; go_big_quiet_on) | (go_big_quiet_want; refine quiet_bload _ _ rfl bordT (fun W hW => smp_class S1 hW) rfl ?_; go_simp; go_big_quiet_on) | go_big_quiet_step ((first | (go_at_call 18; with_reducible exact Calls.regrown_of (C3.out _ (J1.on (below_regrown _ _ _)))))) | quiet_step ((first | (go_at_call 18; with_reducible exact Calls.regrown_of (C3.out _ (J1.on (below_regrown _ _ _)))))))
            refine wpQuiet_nil ?_
            intro W hw'
            have B := below_regrown' hw'
            clear hw' k_a0 k_e1 k_e2 k_v0 k_v1 k_v2 k_v3 k_S1
            replace BB := bon BB B
            replace a0 := cell_below B a0
            replace e1 := cell_below B e1
            replace e2 := cell_below B e2
            replace v0 := cell_below B v0
            replace v1 := cell_below B v1
            replace v2 := cell_below B v2
            replace v3 := cell_below B v3
            replace S1 := smp_below B S1
            replace J1 := RdI.on J1 B
            go_wp2
            go_roundw
            case rel => exact ⟨q + 1, by go_num, by omega, fun h => by have := hne h; omega, a0, e1, e2, v0, v1, v2, v3, S1, J1, BB⟩
            case measure => simp [intOf]; omega
          · rw [k0, k1] at C3
            go_wp2
            have k_a0 := cell_regrown a0
            have k_e1 := cell_regrown e1
            have k_e2 := cell_regrown e2
            have k_v0 := cell_regrown v0
            have k_v1 := cell_regrown v1
            have k_v2 := cell_regrown v2
            have k_v3 := cell_regrown v3
            have k_S1 := smp_regrown S1
            refine wp_region_quiet_below (by kernel_rfl) (by kernel_rfl) ?_
            repeat (first | (go_big_quiet_want; refine quiet_sload _ _ rfl smpT (fun W hW => smp_class S1 hW) rfl ?_; go_simp; go_big_quiet_on) | (go_big_quiet_want; refine quiet_bload _ _ rfl bordT (fun W hW => smp_class S1 hW) rfl ?_; go_simp; go_big_quiet_on) | go_big_quiet_step ((first | (go_at_call 18; with_reducible exact Calls.regrown_of (C3.out _ (J1.on (below_regrown _ _ _)))))) | quiet_step ((first | (go_at_call 18; with_reducible exact Calls.regrown_of (C3.out _ (J1.on (below_regrown _ _ _)))))))
            refine wpQuiet_nil ?_
            intro W hw'
            have B := below_regrown' hw'
            clear hw' k_a0 k_e1 k_e2 k_v0 k_v1 k_v2 k_v3 k_S1
            replace BB := bon BB B
            replace a0 := cell_below B a0
            replace e1 := cell_below B e1
            replace e2 := cell_below B e2
            replace v0 := cell_below B v0
            replace v1 := cell_below B v1
            replace v2 := cell_below B v2
            replace v3 := cell_below B v3
            replace S1 := smp_below B S1
            replace J1 := RdI.on J1 B
            go_wp2
            go_roundw
            case rel => exact ⟨q + 1, by go_num, by omega, fun h => by have := hne h; omega, a0, e1, e2, v0, v1, v2, v3, S1, J1, BB⟩
            case measure => simp [intOf]; omega
          · rw [k0, k1, k2] at C3
            go_wp2
            have k_a0 := cell_regrown a0
            have k_e1 := cell_regrown e1
            have k_e2 := cell_regrown e2
            have k_v0 := cell_regrown v0
            have k_v1 := cell_regrown v1
            have k_v2 := cell_regrown v2
            have k_v3 := cell_regrown v3
            have k_S1 := smp_regrown S1
            refine wp_region_quiet_below (by kernel_rfl) (by kernel_rfl) ?_
            repeat (first | (go_big_quiet_want; refine quiet_sload _ _ rfl smpT (fun W hW => smp_class S1 hW) rfl ?_; go_simp; go_big_quiet_on) | (go_big_quiet_want; refine quiet_bload _ _ rfl bordT (fun W hW => smp_class S1 hW) rfl ?_; go_simp; go_big_quiet_on) | go_big_quiet_step ((first | (go_at_call 18; with_reducible exact Calls.regrown_of (C3.out _ (J1.on (below_regrown _ _ _)))))) | quiet_step ((first | (go_at_call 18; with_reducible exact Calls.regrown_of (C3.out _ (J1.on (below_regrown _ _ _)))))))
            refine wpQuiet_nil ?_
            intro W hw'
            have B := below_regrown' hw'
            clear hw' k_a0 k_e1 k_e2 k_v0 k_v1 k_v2 k_v3 k_S1
            replace BB := bon BB B
            replace a0 := cell_below B a0
            replace e1 := cell_below B e1
            replace e2 := cell_below B e2
            replace v0 := cell_below B v0
            replace v1 := cell_below B v1
            replace v2 := cell_below B v2
            replace v3 := cell_below B v3
            replace S1 := smp_below B S1
            replace J1 := RdI.on J1 B
            go_wp2
            go_roundw
            case rel => exact ⟨q + 1, by go_num, by omega, fun h => by have := hne h; omega, a0, e1, e2, v0, v1, v2, v3, S1, J1, BB⟩
            case measure => simp [intOf]; omega
      · have hjY : j < Y := by
          rcases Nat.lt_or_ge j Y with h | h
          · exact h
          · exfalso
            have := hqX (by omega)
            omega
        go_wp2
        go_roundw
        case rel => exact ⟨j + 1, by go_num, by omega, a0, e1, e2, v0, v1, v2, v3, S1, J1, BB⟩
        case measure => simp [intOf]; omega

set_option maxRecDepth 100000 in
set_option maxHeartbeats 8000000 in
theorem nearest_2_b2 (A : Option Addr) (n c : Nat) (ts : List Tx) (s : Nat → Int) (u v k l : Int) (w : World) (R : RdI w w.heap.size A n ts) (hn : n ≤ 9223372036854775807) (h : SV s) (hn0 : 0 < n) (lw lh : Int) (hw : (lvl ts 0).w = lw) (hh : (lvl ts 0).h = lh) (h64 : ¬ 64 < lw) (k64 : ¬ 64 < lh) (hcan : can ts s 0) (r : Nat → Int) (hr : slv ts s u v 0 1 = r) (y0 : r 0 = 0) (y1 : r 1 = 0) (y2 : ¬ r 2 = 0) (m0 : ¬ s 0 = 4) (m1 : s 1 = 4) (x0 : r 0 = s 5) (x1 : r 1 = s 6) (x2 : ¬ r 2 = s 7) :
    Calls Try.prog 5 #[.agg #[.slice A n c], .agg (smps s), .agg #[.int .i64 u, .int .i64 v, .int .i64 k, .int .i64 l]] w fun e w' => e = .returned (.bool true) ∧ Below w.heap.size w w' := by
  obtain ⟨B0, a0, S0⟩ := args_ts w A n c s 41 27
  obtain ⟨p0, p1, p2, p3, B1⟩ := box4 ((w.alloc (.cells #[.slice A n c] 41)).alloc (.cells (smps s) 27)) (.int .i64 u) (.int .i64 v) (.int .i64 k) (.int .i64 l) 38
  have z2 : ((w.alloc (.cells #[.slice A n c] 41)).alloc (.cells (smps s) 27)).heap.size = w.heap.size + 2 := by simp
  rw [z2] at p0 p1 p2 p3
  replace a0 := cell_below B1 a0
  replace S0 := smp_below B1 S0
  have BB := bon B0 B1
  have J1 := R.on BB
  have CE := Lib.hid (fun W => sexample_b W)
  have cv := fun W => sval_b s W
  have c1 := fun W R => sslv_b A n c ts s u v 0 1 W R hn
  obtain ⟨bb, off, t, rfl, _, TA, _, ht⟩ := J1.at_ hn0
  obtain ⟨_, e1, e2, _⟩ := TA
  simp only [Nat.zero_mul, Nat.add_zero] at e1 e2
  have hl : lvl ts 0 = t.m := by unfold lvl; simp [List.getD, ht]
  have n0 : ¬ (n : Int) = 0 := by omega
  have n00 : ((n : Int) == 0) = false := by simp; omega
  have n1 : ¬ n = 0 := by omega
  rw [decide_eq_true h] at cv
  have CV := Lib.hid cv
  unfold GivesV at c1
  rw [hr] at c1
  have C1 := Lib.hid c1
  rw [← hl, hw] at e1
  rw [← hl, hh] at e2
  have d1 : decide (64 < lw) = false := decide_eq_false h64
  have d2 : decide (64 < lh) = false := decide_eq_false k64
  clear c1 cv B0 B1 z2 hl ht
  go_enter Try.func5, Try.ntmps5
  obtain ⟨X, Y, hX, hY, hXY0⟩ := nearest_in (u := u) (v := v) hcan (.inr fun q => x2 ((congrFun hr 2).symm.trans (q 2 (by omega))))
  have hXY := fun i => (hXY0 i).trans (congrFun hr i)
  rw [hw] at hX
  rw [hh] at hY
  have C2 := Lib.hid (fun x y W R => stexel_b (some ⟨bb, off, none⟩) n c ts (edg s) x y 0 W R hn)
  unfold GivesV at C2
  have HXY := Lib.hid hXY
  clear hXY0 hXY hr hw hh hcan R hn
  go_wp2_with (first | ((with_reducible refine sloadN smpT S0 ?_ ?_); focus rfl) | (go_at_call 17; (with_reducible refine (C1.out _ J1).mono ?_); rintro _ V1 ⟨rfl, B⟩; replace BB := bon BB B; replace a0 := cell_below B a0; replace S0 := smp_below B S0; replace e1 := cell_below B e1; replace e2 := cell_below B e2; replace J1 := RdI.on J1 B; clear B) | (go_at_call 15; (with_reducible refine (CV.out _).mono ?_); rintro _ V4 ⟨rfl, B⟩; replace BB := bon BB B; replace a0 := cell_below B a0; replace S0 := smp_below B S0; replace e1 := cell_below B e1; replace e2 := cell_below B e2; replace v0 := cell_below B v0; replace v1 := cell_below B v1; replace v2 := cell_below B v2; replace v3 := cell_below B v3; replace J1 := RdI.on J1 B; clear B) | (go_at_call 14; (with_reducible refine (CE.out _).mono ?_); rintro _ V3 ⟨rfl, B⟩; replace BB := bon BB B; replace a0 := cell_below B a0; replace S0 := smp_below B S0; replace e1 := cell_below B e1; replace e2 := cell_below B e2; replace v0 := cell_below B v0; replace v1 := cell_below B v1; replace v2 := cell_below B v2; replace v3 := cell_below B v3; replace J1 := RdI.on J1 B; clear B) | ((with_reducible refine storeN ?_); refine wpList_vset rfl _ _ _ rfl _ _ _ _ rfl rfl (VBox.made _ 0 0 0 0 _) (by kernel_rfl) ?_; intro V2 B2 D3 hD hz; have B : Below V1.heap.size V1 V2 := (box_below V1 _ _).trans B2; replace BB := bon BB B; replace a0 := cell_below B a0; replace S0 := smp_below B S0; replace e1 := cell_below B e1; replace e2 := cell_below B e2; replace J1 := RdI.on J1 B; obtain ⟨v0, v1, v2, v3⟩ := D3.1; clear B B2 D3 hD hz) | ((with_reducible refine storeN ?_); refine wpList_sset rfl _ _ _ rfl s rfl rfl (SBox.made _ (fun _ => 0) _) (by kernel_rfl) ?_; intro V5 E5 B5 _ _) | ((with_reducible refine storeN ?_); refine wpList_sset1 rfl _ _ _ rfl E5 (fun i => if i = 0 then 3 else s i) rfl (fun i hi => if_neg hi) rfl rfl (by omega) (by kernel_rfl) ?_; intro V6 E6 B6 _ _) | ((with_reducible refine storeN ?_); refine wpList_sset1 rfl _ _ _ rfl E6 (edg s) rfl (fun i hi => by unfold edg; simp [hi]) rfl rfl (by omega) (by kernel_rfl) ?_; intro V7 E7 B7 _ _; have B : Below V4.heap.size V4 V7 := (((box_below V4 _ _).trans B5).trans B6).trans B7; replace BB := bon BB B; replace a0 := cell_below B a0; replace S0 := smp_below B S0; replace e1 := cell_below B e1; replace e2 := cell_below B e2; replace v0 := cell_below B v0; replace v1 := cell_below B v1; replace v2 := cell_below B v2; replace v3 := cell_below B v3; replace J1 := RdI.on J1 B; have S1 := E7.1; clear B B5 B6 B7 E5 E6 E7))
  replace v0 : V7.cell? ⟨V1.heap.size, 0, none⟩ = some (.int .i64 (r 0)) := v0.trans (congrArg (fun z => some (Value.int .i64 z)) (by omega))
  replace v1 : V7.cell? ⟨V1.heap.size, 1, none⟩ = some (.int .i64 (r 1)) := v1.trans (congrArg (fun z => some (Value.int .i64 z)) (by omega))
  replace v2 : V7.cell? ⟨V1.heap.size, 2, none⟩ = some (.int .i64 (r 2)) := v2.trans (congrArg (fun z => some (Value.int .i64 z)) (by omega))
  replace v3 : V7.cell? ⟨V1.heap.size, 3, none⟩ = some (.int .i64 (r 3)) := v3.trans (congrArg (fun z => some (Value.int .i64 z)) (by omega))
  clear y0 y1 y2 m0 m1 x0 x1 x2
  generalize V1.heap.size = bv at *
  generalize V4.heap.size = bs at *
  clear S0 p0 p1 p2 p3 C1 CV
  go_loopw [9] (fun i wr => ∃ j : Nat, i = .int .i64 j ∧ j ≤ Y ∧ wr.cell? ⟨w.heap.size, 0, none⟩ = some (.slice (some ⟨bb, off, none⟩) n c) ∧ wr.cell? ⟨bb, off + 1, none⟩ = some (.int .i64 lw) ∧ wr.cell? ⟨bb, off + 2, none⟩ = some (.int .i64 lh) ∧ wr.cell? ⟨bv, 0, none⟩ = some (.int .i64 (r 0)) ∧ wr.cell? ⟨bv, 1, none⟩ = some (.int .i64 (r 1)) ∧ wr.cell? ⟨bv, 2, none⟩ = some (.int .i64 (r 2)) ∧ wr.cell? ⟨bv, 3, none⟩ = some (.int .i64 (r 3)) ∧ (∀ i, i < 12 → wr.cell? ⟨bs, i, none⟩ = some (.int .i64 ((edg s) i))) ∧ RdI wr wr.heap.size (some ⟨bb, off, none⟩) n ts ∧ Below w.heap.size w wr) (fun i _ => Y + 1 - (intOf i).toNat)
  case atStart => exact ⟨0, rfl, by omega, a0, e1, e2, v0, v1, v2, v3, S1, J1, BB⟩
  case round =>
    clear a0 e1 e2 v0 v1 v2 v3 S1 J1 BB
    obtain ⟨j, rfl, hj, a0, e1, e2, v0, v1, v2, v3, S1, J1, BB⟩ := hrel
    have hjh : (j : Int) < lh := by omega
    go_wp2
    go_loopw [10] (fun i wr => ∃ q : Nat, i = .int .i64 q ∧ (q : Int) ≤ lw ∧ (j = Y → q ≤ X) ∧ wr.cell? ⟨w.heap.size, 0, none⟩ = some (.slice (some ⟨bb, off, none⟩) n c) ∧ wr.cell? ⟨bb, off + 1, none⟩ = some (.int .i64 lw) ∧ wr.cell? ⟨bb, off + 2, none⟩ = some (.int .i64 lh) ∧ wr.cell? ⟨bv, 0, none⟩ = some (.int .i64 (r 0)) ∧ wr.cell? ⟨bv, 1, none⟩ = some (.int .i64 (r 1)) ∧ wr.cell? ⟨bv, 2, none⟩ = some (.int .i64 (r 2)) ∧ wr.cell? ⟨bv, 3, none⟩ = some (.int .i64 (r 3)) ∧ (∀ i, i < 12 → wr.cell? ⟨bs, i, none⟩ = some (.int .i64 ((edg s) i))) ∧ RdI wr wr.heap.size (some ⟨bb, off, none⟩) n ts ∧ Below w.heap.size w wr) (fun i _ => lw.toNat - (intOf i).toNat)
    case atStart => exact ⟨0, rfl, by omega, fun _ => by omega, a0, e1, e2, v0, v1, v2, v3, S1, J1, BB⟩
    case round =>
      clear a0 e1 e2 v0 v1 v2 v3 S1 J1 BB
      obtain ⟨q, rfl, hq, hqX, a0, e1, e2, v0, v1, v2, v3, S1, J1, BB⟩ := hrel
      by_cases hql : (q : Int) < lw
      · obtain ⟨z, hz⟩ : ∃ z, stx ts (edg s) q j 0 = z := ⟨_, rfl⟩
        have c3 := C2.out (q : Int) (j : Int)
        rw [hz] at c3
        have C3 := Lib.hid c3
        clear c3
        by_cases hall : ∀ i, i < 4 → z i = r i
        · rw [hall 0 (by omega), hall 1 (by omega), hall 2 (by omega), hall 3 (by omega)] at C3
          clear hall hz hqX C2 HXY
          go_wp2
          have k_a0 := cell_regrown a0
          have k_e1 := cell_regrown e1
          have k_e2 := cell_regrown e2
          have k_v0 := cell_regrown v0
          have k_v1 := cell_regrown v1
          have k_v2 := cell_regrown v2
          have k_v3 := cell_regrown v3
          have k_S1 := smp_regrown S1
          refine wp_region_quiet_below (by kernel_rfl) (by kernel_rfl) ?_
          repeat (first | (go_big_quiet_want; refine quiet_sload _ _ rfl smpT (fun W hW => smp_class S1 hW) rfl ?_; go_simp; go_big_quiet_on) | (go_big_quiet_want; refine quiet_bload _ _ rfl bordT (fun W hW => smp_class S1 hW) rfl ?_; go_simp; go_big_quiet_on) | go_big_quiet_step ((first | (go_at_call 18; with_reducible exact Calls.regrown_of (C3.out _ (J1.on (below_regrown _ _ _)))))) | quiet_step ((first | (go_at_call 18; with_reducible exact Calls.regrown_of (C3.out _ (J1.on (below_regrown _ _ _)))))))
          refine wpQuiet_nil ?_
          intro W hw'
          have B := below_regrown' hw'
          clear hw' k_a0 k_e1 k_e2 k_v0 k_v1 k_v2 k_v3 k_S1
          replace BB := bon BB B
          replace a0 := cell_below B a0
          replace e1 := cell_below B e1
          replace e2 := cell_below B e2
          replace v0 := cell_below B v0
          replace v1 := cell_below B v1
          replace v2 := cell_below B v2
          replace v3 := cell_below B v3
          replace S1 := smp_below B S1
          replace J1 := RdI.on J1 B
          go_wp2_with (go_at_call 14; (with_reducible refine (CE.out _).mono ?_); rintro _ V3 ⟨rfl, B⟩; (replace BB := bon BB B; replace a0 := cell_below B a0; replace e1 := cell_below B e1; replace e2 := cell_below B e2; replace v0 := cell_below B v0; replace v1 := cell_below B v1; replace v2 := cell_below B v2; replace v3 := cell_below B v3; replace S1 := smp_below B S1; replace J1 := RdI.on J1 B); clear B)
          go_ret
          exact ⟨rfl, BB⟩
        · have hne : j = Y → q < X := by
            intro hy
            rcases Nat.lt_or_ge q X with h | h
            · exact h
            · exfalso
              obtain rfl : q = X := by have := hqX hy; omega
              subst hy
              exact hall fun i _ => by rw [← hz]; exact HXY.out i
          have hd : ¬ z 0 = r 0 ∨ (z 0 = r 0 ∧ ¬ z 1 = r 1) ∨ (z 0 = r 0 ∧ z 1 = r 1 ∧ ¬ z 2 = r 2) ∨ (z 0 = r 0 ∧ z 1 = r 1 ∧ z 2 = r 2 ∧ ¬ z 3 = r 3) := by
            by_cases k0 : z 0 = r 0
            · by_cases k1 : z 1 = r 1
              · by_cases k2 : z 2 = r 2
                · by_cases k3 : z 3 = r 3
                  · exact absurd (fun i (hi : i < 4) => (match i, hi with | 0, _ => k0 | 1, _ => k1 | 2, _ => k2 | 3, _ => k3 : z i = r i)) hall
                  · exact .inr (.inr (.inr ⟨k0, k1, k2, k3⟩))
                · exact .inr (.inr (.inl ⟨k0, k1, k2⟩))
              · exact .inr (.inl ⟨k0, k1⟩)
            · exact .inl k0
          clear hall hz hqX C2 HXY
          rcases hd with k0 | ⟨k0, k1⟩ | ⟨k0, k1, k2⟩ | ⟨k0, k1, k2, k3⟩
          · skip
            go_wp2
            have k_a0 := cell_regrown a0
            have k_e1 := cell_regrown e1
            have k_e2 := cell_regrown e2
            have k_v0 := cell_regrown v0
            have k_v1 := cell_regrown v1
            have k_v2 := cell_regrown v2
            have k_v3 := cell_regrown v3
            have k_S1 := smp_regrown S1
            refine wp_region_quiet_below (by kernel_rfl) (by kernel_rfl) ?_
            repeat (first | (go_big_quiet_want; refine quiet_sload _ _ rfl smpT (fun W hW => smp_class S1 hW) rfl ?_; go_simp; go_big_quiet_on) | (go_big_quiet_want; refine quiet_bload _ _ rfl bordT (fun W hW => smp_class S1 hW) rfl ?_; go_simp; go_big_quiet_on) | go_big_quiet_step ((first | (go_at_call 18; with_reducible exact Calls.regrown_of (C3.out _ (J1.on (below_regrown _ _ _)))))) | quiet_step ((first | (go_at_call 18; with_reducible exact Calls.regrown_of (C3.out _ (J1.on (below_regrown _ _ _)))))))
            refine wpQuiet_nil ?_
            intro W hw'
            have B := below_regrown' hw'
            clear hw' k_a0 k_e1 k_e2 k_v0 k_v1 k_v2 k_v3 k_S1
            replace BB := bon BB B
            replace a0 := cell_below B a0
            replace e1 := cell_below B e1
            replace e2 := cell_below B e2
            replace v0 := cell_below B v0
            replace v1 := cell_below B v1
            replace v2 := cell_below B v2
            replace v3 := cell_below B v3
            replace S1 := smp_below B S1
            replace J1 := RdI.on J1 B
            go_wp2
            go_roundw
            case rel => exact ⟨q + 1, by go_num, by omega, fun h => by have := hne h; omega, a0, e1, e2, v0, v1, v2, v3, S1, J1, BB⟩
            case measure => simp [intOf]; omega
          · rw [k0] at C3
            go_wp2
            have k_a0 := cell_regrown a0
            have k_e1 := cell_regrown e1
            have k_e2 := cell_regrown e2
            have k_v0 := cell_regrown v0
            have k_v1 := cell_regrown v1
            have k_v2 := cell_regrown v2
            have k_v3 := cell_regrown v3
            have k_S1 := smp_regrown S1
            refine wp_region_quiet_below (by kernel_rfl) (by kernel_rfl) ?_
            repeat (first | (go_big_quiet_want; refine quiet_sload _ _ rfl smpT (fun W hW => smp_class S1 hW) rfl ?_; go_simp; go_big_quiet_on) | (go_big_quiet_want; refine quiet_bload _ _ rfl bordT (fun W hW => smp_class S1 hW) rfl ?_; go_simp; go_big_quiet_on) | go_big_quiet_step ((first | (go_at_call 18; with_reducible exact Calls.regrown_of (C3.out _ (J1.on (below_regrown _ _ _)))))) | quiet_step ((first | (go_at_call 18; with_reducible exact Calls.regrown_of (C3.out _ (J1.on (below_regrown _ _ _)))))))
            refine wpQuiet_nil ?_
            intro W hw'
            have B := below_regrown' hw'
            clear hw' k_a0 k_e1 k_e2 k_v0 k_v1 k_v2 k_v3 k_S1
            replace BB := bon BB B
            replace a0 := cell_below B a0
            replace e1 := cell_below B e1
            replace e2 := cell_below B e2
            replace v0 := cell_below B v0
            replace v1 := cell_below B v1
            replace v2 := cell_below B v2
            replace v3 := cell_below B v3
            replace S1 := smp_below B S1
            replace J1 := RdI.on J1 B
            go_wp2
            go_roundw
            case rel => exact ⟨q + 1, by go_num, by omega, fun h => by have := hne h; omega, a0, e1, e2, v0, v1, v2, v3, S1, J1, BB⟩
            case measure => simp [intOf]; omega
          · rw [k0, k1] at C3
            go_wp2
            have k_a0 := cell_regrown a0
            have k_e1 := cell_regrown e1
            have k_e2 := cell_regrown e2
            have k_v0 := cell_regrown v0
            have k_v1 := cell_regrown v1
            have k_v2 := cell_regrown v2
            have k_v3 := cell_regrown v3
            have k_S1 := smp_regrown S1
            refine wp_region_quiet_below (by kernel_rfl) (by kernel_rfl) ?_
            repeat (first | (go_big_quiet_want; refine quiet_sload _ _ rfl smpT (fun W hW => smp_class S1 hW) rfl ?_; go_simp; go_big_quiet_on) | (go_big_quiet_want; refine quiet_bload _ _ rfl bordT (fun W hW => smp_class S1 hW) rfl ?_; go_simp; go_big_quiet_on) | go_big_quiet_step ((first | (go_at_call 18; with_reducible exact Calls.regrown_of (C3.out _ (J1.on (below_regrown _ _ _)))))) | quiet_step ((first | (go_at_call 18; with_reducible exact Calls.regrown_of (C3.out _ (J1.on (below_regrown _ _ _)))))))
            refine wpQuiet_nil ?_
            intro W hw'
            have B := below_regrown' hw'
            clear hw' k_a0 k_e1 k_e2 k_v0 k_v1 k_v2 k_v3 k_S1
            replace BB := bon BB B
            replace a0 := cell_below B a0
            replace e1 := cell_below B e1
            replace e2 := cell_below B e2
            replace v0 := cell_below B v0
            replace v1 := cell_below B v1
            replace v2 := cell_below B v2
            replace v3 := cell_below B v3
            replace S1 := smp_below B S1
            replace J1 := RdI.on J1 B
            go_wp2
            go_roundw
            case rel => exact ⟨q + 1, by go_num, by omega, fun h => by have := hne h; omega, a0, e1, e2, v0, v1, v2, v3, S1, J1, BB⟩
            case measure => simp [intOf]; omega
          · rw [k0, k1, k2] at C3
            go_wp2
            have k_a0 := cell_regrown a0
            have k_e1 := cell_regrown e1
            have k_e2 := cell_regrown e2
            have k_v0 := cell_regrown v0
            have k_v1 := cell_regrown v1
            have k_v2 := cell_regrown v2
            have k_v3 := cell_regrown v3
            have k_S1 := smp_regrown S1
            refine wp_region_quiet_below (by kernel_rfl) (by kernel_rfl) ?_
            repeat (first | (go_big_quiet_want; refine quiet_sload _ _ rfl smpT (fun W hW => smp_class S1 hW) rfl ?_; go_simp; go_big_quiet_on) | (go_big_quiet_want; refine quiet_bload _ _ rfl bordT (fun W hW => smp_class S1 hW) rfl ?_; go_simp; go_big_quiet_on) | go_big_quiet_step ((first | (go_at_call 18; with_reducible exact Calls.regrown_of (C3.out _ (J1.on (below_regrown _ _ _)))))) | quiet_step ((first | (go_at_call 18; with_reducible exact Calls.regrown_of (C3.out _ (J1.on (below_regrown _ _ _)))))))
            refine wpQuiet_nil ?_
            intro W hw'
            have B := below_regrown' hw'
            clear hw' k_a0 k_e1 k_e2 k_v0 k_v1 k_v2 k_v3 k_S1
            replace BB := bon BB B
            replace a0 := cell_below B a0
            replace e1 := cell_below B e1
            replace e2 := cell_below B e2
            replace v0 := cell_below B v0
            replace v1 := cell_below B v1
            replace v2 := cell_below B v2
            replace v3 := cell_below B v3
            replace S1 := smp_below B S1
            replace J1 := RdI.on J1 B
            go_wp2
            go_roundw
            case rel => exact ⟨q + 1, by go_num, by omega, fun h => by have := hne h; omega, a0, e1, e2, v0, v1, v2, v3, S1, J1, BB⟩
            case measure => simp [intOf]; omega
      · have hjY : j < Y := by
          rcases Nat.lt_or_ge j Y with h | h
          · exact h
          · exfalso
            have := hqX (by omega)
            omega
        go_wp2
        go_roundw
        case rel => exact ⟨j + 1, by go_num, by omega, a0, e1, e2, v0, v1, v2, v3, S1, J1, BB⟩
        case measure => simp [intOf]; omega

set_option maxRecDepth 100000 in
set_option maxHeartbeats 8000000 in
theorem nearest_2_b3 (A : Option Addr) (n c : Nat) (ts : List Tx) (s : Nat → Int) (u v k l : Int) (w : World) (R : RdI w w.heap.size A n ts) (hn : n ≤ 9223372036854775807) (h : SV s) (hn0 : 0 < n) (lw lh : Int) (hw : (lvl ts 0).w = lw) (hh : (lvl ts 0).h = lh) (h64 : ¬ 64 < lw) (k64 : ¬ 64 < lh) (hcan : can ts s 0) (r : Nat → Int) (hr : slv ts s u v 0 1 = r) (y0 : r 0 = 0) (y1 : r 1 = 0) (y2 : ¬ r 2 = 0) (m0 : ¬ s 0 = 4) (m1 : s 1 = 4) (x0 : r 0 = s 5) (x1 : r 1 = s 6) (x2 : r 2 = s 7) (x3 : ¬ r 3 = s 8) :
    Calls Try.prog 5 #[.agg #[.slice A n c], .agg (smps s), .agg #[.int .i64 u, .int .i64 v, .int .i64 k, .int .i64 l]] w fun e w' => e = .returned (.bool true) ∧ Below w.heap.size w w' := by
  obtain ⟨B0, a0, S0⟩ := args_ts w A n c s 41 27
  obtain ⟨p0, p1, p2, p3, B1⟩ := box4 ((w.alloc (.cells #[.slice A n c] 41)).alloc (.cells (smps s) 27)) (.int .i64 u) (.int .i64 v) (.int .i64 k) (.int .i64 l) 38
  have z2 : ((w.alloc (.cells #[.slice A n c] 41)).alloc (.cells (smps s) 27)).heap.size = w.heap.size + 2 := by simp
  rw [z2] at p0 p1 p2 p3
  replace a0 := cell_below B1 a0
  replace S0 := smp_below B1 S0
  have BB := bon B0 B1
  have J1 := R.on BB
  have CE := Lib.hid (fun W => sexample_b W)
  have cv := fun W => sval_b s W
  have c1 := fun W R => sslv_b A n c ts s u v 0 1 W R hn
  obtain ⟨bb, off, t, rfl, _, TA, _, ht⟩ := J1.at_ hn0
  obtain ⟨_, e1, e2, _⟩ := TA
  simp only [Nat.zero_mul, Nat.add_zero] at e1 e2
  have hl : lvl ts 0 = t.m := by unfold lvl; simp [List.getD, ht]
  have n0 : ¬ (n : Int) = 0 := by omega
  have n00 : ((n : Int) == 0) = false := by simp; omega
  have n1 : ¬ n = 0 := by omega
  rw [decide_eq_true h] at cv
  have CV := Lib.hid cv
  unfold GivesV at c1
  rw [hr] at c1
  have C1 := Lib.hid c1
  rw [← hl, hw] at e1
  rw [← hl, hh] at e2
  have d1 : decide (64 < lw) = false := decide_eq_false h64
  have d2 : decide (64 < lh) = false := decide_eq_false k64
  clear c1 cv B0 B1 z2 hl ht
  go_enter Try.func5, Try.ntmps5
  obtain ⟨X, Y, hX, hY, hXY0⟩ := nearest_in (u := u) (v := v) hcan (.inr fun q => x3 ((congrFun hr 3).symm.trans (q 3 (by omega))))
  have hXY := fun i => (hXY0 i).trans (congrFun hr i)
  rw [hw] at hX
  rw [hh] at hY
  have C2 := Lib.hid (fun x y W R => stexel_b (some ⟨bb, off, none⟩) n c ts (edg s) x y 0 W R hn)
  unfold GivesV at C2
  have HXY := Lib.hid hXY
  clear hXY0 hXY hr hw hh hcan R hn
  go_wp2_with (first | ((with_reducible refine sloadN smpT S0 ?_ ?_); focus rfl) | (go_at_call 17; (with_reducible refine (C1.out _ J1).mono ?_); rintro _ V1 ⟨rfl, B⟩; replace BB := bon BB B; replace a0 := cell_below B a0; replace S0 := smp_below B S0; replace e1 := cell_below B e1; replace e2 := cell_below B e2; replace J1 := RdI.on J1 B; clear B) | (go_at_call 15; (with_reducible refine (CV.out _).mono ?_); rintro _ V4 ⟨rfl, B⟩; replace BB := bon BB B; replace a0 := cell_below B a0; replace S0 := smp_below B S0; replace e1 := cell_below B e1; replace e2 := cell_below B e2; replace v0 := cell_below B v0; replace v1 := cell_below B v1; replace v2 := cell_below B v2; replace v3 := cell_below B v3; replace J1 := RdI.on J1 B; clear B) | (go_at_call 14; (with_reducible refine (CE.out _).mono ?_); rintro _ V3 ⟨rfl, B⟩; replace BB := bon BB B; replace a0 := cell_below B a0; replace S0 := smp_below B S0; replace e1 := cell_below B e1; replace e2 := cell_below B e2; replace v0 := cell_below B v0; replace v1 := cell_below B v1; replace v2 := cell_below B v2; replace v3 := cell_below B v3; replace J1 := RdI.on J1 B; clear B) | ((with_reducible refine storeN ?_); refine wpList_vset rfl _ _ _ rfl _ _ _ _ rfl rfl (VBox.made _ 0 0 0 0 _) (by kernel_rfl) ?_; intro V2 B2 D3 hD hz; have B : Below V1.heap.size V1 V2 := (box_below V1 _ _).trans B2; replace BB := bon BB B; replace a0 := cell_below B a0; replace S0 := smp_below B S0; replace e1 := cell_below B e1; replace e2 := cell_below B e2; replace J1 := RdI.on J1 B; obtain ⟨v0, v1, v2, v3⟩ := D3.1; clear B B2 D3 hD hz) | ((with_reducible refine storeN ?_); refine wpList_sset rfl _ _ _ rfl s rfl rfl (SBox.made _ (fun _ => 0) _) (by kernel_rfl) ?_; intro V5 E5 B5 _ _) | ((with_reducible refine storeN ?_); refine wpList_sset1 rfl _ _ _ rfl E5 (fun i => if i = 0 then 3 else s i) rfl (fun i hi => if_neg hi) rfl rfl (by omega) (by kernel_rfl) ?_; intro V6 E6 B6 _ _) | ((with_reducible refine storeN ?_); refine wpList_sset1 rfl _ _ _ rfl E6 (edg s) rfl (fun i hi => by unfold edg; simp [hi]) rfl rfl (by omega) (by kernel_rfl) ?_; intro V7 E7 B7 _ _; have B : Below V4.heap.size V4 V7 := (((box_below V4 _ _).trans B5).trans B6).trans B7; replace BB := bon BB B; replace a0 := cell_below B a0; replace S0 := smp_below B S0; replace e1 := cell_below B e1; replace e2 := cell_below B e2; replace v0 := cell_below B v0; replace v1 := cell_below B v1; replace v2 := cell_below B v2; replace v3 := cell_below B v3; replace J1 := RdI.on J1 B; have S1 := E7.1; clear B B5 B6 B7 E5 E6 E7))
  replace v0 : V7.cell? ⟨V1.heap.size, 0, none⟩ = some (.int .i64 (r 0)) := v0.trans (congrArg (fun z => some (Value.int .i64 z)) (by omega))
  replace v1 : V7.cell? ⟨V1.heap.size, 1, none⟩ = some (.int .i64 (r 1)) := v1.trans (congrArg (fun z => some (Value.int .i64 z)) (by omega))
  replace v2 : V7.cell? ⟨V1.heap.size, 2, none⟩ = some (.int .i64 (r 2)) := v2.trans (congrArg (fun z => some (Value.int .i64 z)) (by omega))
  replace v3 : V7.cell? ⟨V1.heap.size, 3, none⟩ = some (.int .i64 (r 3)) := v3.trans (congrArg (fun z => some (Value.int .i64 z)) (by omega))
  clear y0 y1 y2 m0 m1 x0 x1 x2 x3
  generalize V1.heap.size = bv at *
  generalize V4.heap.size = bs at *
  clear S0 p0 p1 p2 p3 C1 CV
  go_loopw [9] (fun i wr => ∃ j : Nat, i = .int .i64 j ∧ j ≤ Y ∧ wr.cell? ⟨w.heap.size, 0, none⟩ = some (.slice (some ⟨bb, off, none⟩) n c) ∧ wr.cell? ⟨bb, off + 1, none⟩ = some (.int .i64 lw) ∧ wr.cell? ⟨bb, off + 2, none⟩ = some (.int .i64 lh) ∧ wr.cell? ⟨bv, 0, none⟩ = some (.int .i64 (r 0)) ∧ wr.cell? ⟨bv, 1, none⟩ = some (.int .i64 (r 1)) ∧ wr.cell? ⟨bv, 2, none⟩ = some (.int .i64 (r 2)) ∧ wr.cell? ⟨bv, 3, none⟩ = some (.int .i64 (r 3)) ∧ (∀ i, i < 12 → wr.cell? ⟨bs, i, none⟩ = some (.int .i64 ((edg s) i))) ∧ RdI wr wr.heap.size (some ⟨bb, off, none⟩) n ts ∧ Below w.heap.size w wr) (fun i _ => Y + 1 - (intOf i).toNat)
  case atStart => exact ⟨0, rfl, by omega, a0, e1, e2, v0, v1, v2, v3, S1, J1, BB⟩
  case round =>
    clear a0 e1 e2 v0 v1 v2 v3 S1 J1 BB
    obtain ⟨j, rfl, hj, a0, e1, e2, v0, v1, v2, v3, S1, J1, BB⟩ := hrel
    have hjh : (j : Int) < lh := by omega
    go_wp2
    go_loopw [10] (fun i wr => ∃ q : Nat, i = .int .i64 q ∧ (q : Int) ≤ lw ∧ (j = Y → q ≤ X) ∧ wr.cell? ⟨w.heap.size, 0, none⟩ = some (.slice (some ⟨bb, off, none⟩) n c) ∧ wr.cell? ⟨bb, off + 1, none⟩ = some (.int .i64 lw) ∧ wr.cell? ⟨bb, off + 2, none⟩ = some (.int .i64 lh) ∧ wr.cell? ⟨bv, 0, none⟩ = some (.int .i64 (r 0)) ∧ wr.cell? ⟨bv, 1, none⟩ = some (.int .i64 (r 1)) ∧ wr.cell? ⟨bv, 2, none⟩ = some (.int .i64 (r 2)) ∧ wr.cell? ⟨bv, 3, none⟩ = some (.int .i64 (r 3)) ∧ (∀ i, i < 12 → wr.cell? ⟨bs, i, none⟩ = some (.int .i64 ((edg s) i))) ∧ RdI wr wr.heap.size (some ⟨bb, off, none⟩) n ts ∧ Below w.heap.size w wr) (fun i _ => lw.toNat - (intOf i).toNat)
    case atStart => exact ⟨0, rfl, by omega, fun _ => by omega, a0, e1, e2, v0, v1, v2, v3, S1, J1, BB⟩
    case round =>
      clear a0 e1 e2 v0 v1 v2 v3 S1 J1 BB
      obtain ⟨q, rfl, hq, hqX, a0, e1, e2, v0, v1, v2, v3, S1, J1, BB⟩ := hrel
      by_cases hql : (q : Int) < lw
      · obtain ⟨z, hz⟩ : ∃ z, stx ts (edg s) q j 0 = z := ⟨_, rfl⟩
        have c3 := C2.out (q : Int) (j : Int)
        rw [hz] at c3
        have C3 := Lib.hid c3
        clear c3
        by_cases hall : ∀ i, i < 4 → z i = r i
        · rw [hall 0 (by omega), hall 1 (by omega), hall 2 (by omega), hall 3 (by omega)] at C3
          clear hall hz hqX C2 HXY
          go_wp2
          have k_a0 := cell_regrown a0
          have k_e1 := cell_regrown e1
          have k_e2 := cell_regrown e2
          have k_v0 := cell_regrown v0
          have k_v1 := cell_regrown v1
          have k_v2 := cell_regrown v2
          have k_v3 := cell_regrown v3
          have k_S1 := smp_regrown S1
          refine wp_region_quiet_below (by kernel_rfl) (by kernel_rfl) ?_
          repeat (first | (go_big_quiet_want; refine quiet_sload _ _ rfl smpT (fun W hW => smp_class S1 hW) rfl ?_; go_simp; go_big_quiet_on) | (go_big_quiet_want; refine quiet_bload _ _ rfl bordT (fun W hW => smp_class S1 hW) rfl ?_; go_simp; go_big_quiet_on) | go_big_quiet_step ((first | (go_at_call 18; with_reducible exact Calls.regrown_of (C3.out _ (J1.on (below_regrown _ _ _)))))) | quiet_step ((first | (go_at_call 18; with_reducible exact Calls.regrown_of (C3.out _ (J1.on (below_regrown _ _ _)))))))
          refine wpQuiet_nil ?_
          intro W hw'
          have B := below_regrown' hw'
          clear hw' k_a0 k_e1 k_e2 k_v0 k_v1 k_v2 k_v3 k_S1
          replace BB := bon BB B
          replace a0 := cell_below B a0
          replace e1 := cell_below B e1
          replace e2 := cell_below B e2
          replace v0 := cell_below B v0
          replace v1 := cell_below B v1
          replace v2 := cell_below B v2
          replace v3 := cell_below B v3
          replace S1 := smp_below B S1
          replace J1 := RdI.on J1 B
          go_wp2_with (go_at_call 14; (with_reducible refine (CE.out _).mono ?_); rintro _ V3 ⟨rfl, B⟩; (replace BB := bon BB B; replace a0 := cell_below B a0; replace e1 := cell_below B e1; replace e2 := cell_below B e2; replace v0 := cell_below B v0; replace v1 := cell_below B v1; replace v2 := cell_below B v2; replace v3 := cell_below B v3; replace S1 := smp_below B S1; replace J1 := RdI.on J1 B); clear B)
          go_ret
          exact ⟨rfl, BB⟩
        · have hne : j = Y → q < X := by
            intro hy
            rcases Nat.lt_or_ge q X with h | h
            · exact h
            · exfalso
              obtain rfl : q = X := by have := hqX hy; omega
              subst hy
              exact hall fun i _ => by rw [← hz]; exact HXY.out i
          have hd : ¬ z 0 = r 0 ∨ (z 0 = r 0 ∧ ¬ z 1 = r 1) ∨ (z 0 = r 0 ∧ z 1 = r 1 ∧ ¬ z 2 = r 2) ∨ (z 0 = r 0 ∧ z 1 = r 1 ∧ z 2 = r 2 ∧ ¬ z 3 = r 3) := by
            by_cases k0 : z 0 = r 0
            · by_cases k1 : z 1 = r 1
              · by_cases k2 : z 2 = r 2
                · by_cases k3 : z 3 = r 3
                  · exact absurd (fun i (hi : i < 4) => (match i, hi with | 0, _ => k0 | 1, _ => k1 | 2, _ => k2 | 3, _ => k3 : z i = r i)) hall
                  · exact .inr (.inr (.inr ⟨k0, k1, k2, k3⟩))
                · exact .inr (.inr (.inl ⟨k0, k1, k2⟩))
              · exact .inr (.inl ⟨k0, k1⟩)
            · exact .inl k0
          clear hall hz hqX C2 HXY
          rcases hd with k0 | ⟨k0, k1⟩ | ⟨k0, k1, k2⟩ | ⟨k0, k1, k2, k3⟩
          · skip
            go_wp2
            have k_a0 := cell_regrown a0
            have k_e1 := cell_regrown e1
            have k_e2 := cell_regrown e2
            have k_v0 := cell_regrown v0
            have k_v1 := cell_regrown v1
            have k_v2 := cell_regrown v2
            have k_v3 := cell_regrown v3
            have k_S1 := smp_regrown S1
            refine wp_region_quiet_below (by kernel_rfl) (by kernel_rfl) ?_
            repeat (first | (go_big_quiet_want; refine quiet_sload _ _ rfl smpT (fun W hW => smp_class S1 hW) rfl ?_; go_simp; go_big_quiet_on) | (go_big_quiet_want; refine quiet_bload _ _ rfl bordT (fun W hW => smp_class S1 hW) rfl ?_; go_simp; go_big_quiet_on) | go_big_quiet_step ((first | (go_at_call 18; with_reducible exact Calls.regrown_of (C3.out _ (J1.on (below_regrown _ _ _)))))) | quiet_step ((first | (go_at_call 18; with_reducible exact Calls.regrown_of (C3.out _ (J1.on (below_regrown _ _ _)))))))
            refine wpQuiet_nil ?_
            intro W hw'
            have B := below_regrown' hw'
            clear hw' k_a0 k_e1 k_e2 k_v0 k_v1 k_v2 k_v3 k_S1
            replace BB := bon BB B
            replace a0 := cell_below B a0
            replace e1 := cell_below B e1
            replace e2 := cell_below B e2
            replace v0 := cell_below B v0
            replace v1 := cell_below B v1
            replace v2 := cell_below B v2
            replace v3 := cell_below B v3
            replace S1 := smp_below B S1
            replace J1 := RdI.on J1 B
            go_wp2
            go_roundw
            case rel => exact ⟨q + 1, by go_num, by omega, fun h => by have := hne h; omega, a0, e1, e2, v0, v1, v2, v3, S1, J1, BB⟩
            case measure => simp [intOf]; omega
          · rw [k0] at C3
            go_wp2
            have k_a0 := cell_regrown a0
            have k_e1 := cell_regrown e1
            have k_e2 := cell_regrown e2
            have k_v0 := cell_regrown v0
            have k_v1 := cell_regrown v1
            have k_v2 := cell_regrown v2
            have k_v3 := cell_regrown v3
            have k_S1 := smp_regrown S1
            refine wp_region_quiet_below (by kernel_rfl) (by kernel_rfl) ?_
            repeat (first | (go_big_quiet_want; refine quiet_sload _ _ rfl smpT (fun W hW => smp_class S1 hW) rfl ?_; go_simp; go_big_quiet_on) | (go_big_quiet_want; refine quiet_bload _ _ rfl bordT (fun W hW => smp_class S1 hW) rfl ?_; go_simp; go_big_quiet_on) | go_big_quiet_step ((first | (go_at_call 18; with_reducible exact Calls.regrown_of (C3.out _ (J1.on (below_regrown _ _ _)))))) | quiet_step ((first | (go_at_call 18; with_reducible exact Calls.regrown_of (C3.out _ (J1.on (below_regrown _ _ _)))))))
            refine wpQuiet_nil ?_
            intro W hw'
            have B := below_regrown' hw'
            clear hw' k_a0 k_e1 k_e2 k_v0 k_v1 k_v2 k_v3 k_S1
            replace BB := bon BB B
            replace a0 := cell_below B a0
            replace e1 := cell_below B e1
            replace e2 := cell_below B e2
            replace v0 := cell_below B v0
            replace v1 := cell_below B v1
            replace v2 := cell_below B v2
            replace v3 := cell_below B v3
            replace S1 := smp_below B S1
            replace J1 := RdI.on J1 B
            go_wp2
            go_roundw
            case rel => exact ⟨q + 1, by go_num, by omega, fun h => by have := hne h; omega, a0, e1, e2, v0, v1, v2, v3, S1, J1, BB⟩
            case measure => simp [intOf]; omega
          · rw [k0, k1] at C3
            go_wp2
            have k_a0 := cell_regrown a0
            have k_e1 := cell_regrown e1
            have k_e2 := cell_regrown e2
            have k_v0 := cell_regrown v0
            have k_v1 := cell_regrown v1
            have k_v2 := cell_regrown v2
            have k_v3 := cell_regrown v3
            have k_S1 := smp_regrown S1
            refine wp_region_quiet_below (by kernel_rfl) (by kernel_rfl) ?_
            repeat (first | (go_big_quiet_want; refine quiet_sload _ _ rfl smpT (fun W hW => smp_class S1 hW) rfl ?_; go_simp; go_big_quiet_on) | (go_big_quiet_want; refine quiet_bload _ _ rfl bordT (fun W hW => smp_class S1 hW) rfl ?_; go_simp; go_big_quiet_on) | go_big_quiet_step ((first | (go_at_call 18; with_reducible exact Calls.regrown_of (C3.out _ (J1.on (below_regrown _ _ _)))))) | quiet_step ((first | (go_at_call 18; with_reducible exact Calls.regrown_of (C3.out _ (J1.on (below_regrown _ _ _)))))))
            refine wpQuiet_nil ?_
            intro W hw'
            have B := below_regrown' hw'
            clear hw' k_a0 k_e1 k_e2 k_v0 k_v1 k_v2 k_v3 k_S1
            replace BB := bon BB B
            replace a0 := cell_below B a0
            replace e1 := cell_below B e1
            replace e2 := cell_below B e2
            replace v0 := cell_below B v0
            replace v1 := cell_below B v1
            replace v2 := cell_below B v2
            replace v3 := cell_below B v3
            replace S1 := smp_below B S1
            replace J1 := RdI.on J1 B
            go_wp2
            go_roundw
            case rel => exact ⟨q + 1, by go_num, by omega, fun h => by have := hne h; omega, a0, e1, e2, v0, v1, v2, v3, S1, J1, BB⟩
            case measure => simp [intOf]; omega
          · rw [k0, k1, k2] at C3
            go_wp2
            have k_a0 := cell_regrown a0
            have k_e1 := cell_regrown e1
            have k_e2 := cell_regrown e2
            have k_v0 := cell_regrown v0
            have k_v1 := cell_regrown v1
            have k_v2 := cell_regrown v2
            have k_v3 := cell_regrown v3
            have k_S1 := smp_regrown S1
            refine wp_region_quiet_below (by kernel_rfl) (by kernel_rfl) ?_
            repeat (first | (go_big_quiet_want; refine quiet_sload _ _ rfl smpT (fun W hW => smp_class S1 hW) rfl ?_; go_simp; go_big_quiet_on) | (go_big_quiet_want; refine quiet_bload _ _ rfl bordT (fun W hW => smp_class S1 hW) rfl ?_; go_simp; go_big_quiet_on) | go_big_quiet_step ((first | (go_at_call 18; with_reducible exact Calls.regrown_of (C3.out _ (J1.on (below_regrown _ _ _)))))) | quiet_step ((first | (go_at_call 18; with_reducible exact Calls.regrown_of (C3.out _ (J1.on (below_regrown _ _ _)))))))
            refine wpQuiet_nil ?_
            intro W hw'
            have B := below_regrown' hw'
            clear hw' k_a0 k_e1 k_e2 k_v0 k_v1 k_v2 k_v3 k_S1
            replace BB := bon BB B
            replace a0 := cell_below B a0
            replace e1 := cell_below B e1
            replace e2 := cell_below B e2
            replace v0 := cell_below B v0
            replace v1 := cell_below B v1
            replace v2 := cell_below B v2
            replace v3 := cell_below B v3
            replace S1 := smp_below B S1
            replace J1 := RdI.on J1 B
            go_wp2
            go_roundw
            case rel => exact ⟨q + 1, by go_num, by omega, fun h => by have := hne h; omega, a0, e1, e2, v0, v1, v2, v3, S1, J1, BB⟩
            case measure => simp [intOf]; omega
      · have hjY : j < Y := by
          rcases Nat.lt_or_ge j Y with h | h
          · exact h
          · exfalso
            have := hqX (by omega)
            omega
        go_wp2
        go_roundw
        case rel => exact ⟨j + 1, by go_num, by omega, a0, e1, e2, v0, v1, v2, v3, S1, J1, BB⟩
        case measure => simp [intOf]; omega

end Go.Proofs.Ytoipmldbjciinaa
