/- SampleLevel, Sample of package sampler. -/
import Derived.Test.YtoipmldbjciinaaS3
namespace Go.Proofs.Ytoipmldbjciinaa
open Go.RowKit Go.Sort
set_option linter.unusedVariables false

set_option maxRecDepth 100000 in
set_option maxHeartbeats 4000000 in
theorem sslv_b (A : Option Addr) (n c : Nat) (ts : List Tx) (s : Nat → Int) (u v k f : Int) (w : World) (R : RdI w w.heap.size A n ts) (hn : n ≤ 9223372036854775807) :
    Calls Try.prog 17 #[.agg #[.slice A n c], .agg (smps s), .int .i64 u, .int .i64 v, .int .i64 k, .int .i64 f] w (GivesV w (slv ts s u v k f)) := by
  obtain ⟨BB, a0, S0, D⟩ := args_tsv w A n c s 41 27 25
  have J1 := R.on BB
  have hl := R.len
  have cs := fun W R => scan_b A n c ts s k W R hn
  by_cases hc : can ts s k
  rotate_left
  · have he : slv ts s u v k f = fun _ => 0 := by funext i; exact slv_no hc i
    rw [he]
    rw [decide_eq_false hc] at cs
    unfold GivesV
    have CS := Lib.hid cs
    clear cs hc he R hl hn
    go_enter Try.func17, Try.ntmps17
    go_wp2_with (first
      | (refine wpList_sload rfl _ _ rfl smpT S0 rfl ?_)
      | (go_at_call 36; (with_reducible refine (CS.out _ J1).mono ?_); rintro _ V1 ⟨rfl, B⟩; (replace BB := bon BB B; replace a0 := cell_below B a0; replace S0 := smp_below B S0; replace J1 := RdI.on J1 B); replace D := D.on B; clear B)
      | (refine wpList_vset rfl _ _ _ rfl _ _ _ _ rfl rfl D (by kernel_rfl) ?_; intro V2 B2 D3 hD _))
    obtain ⟨⟨d0, d1, d2, d3⟩, _⟩ := D3
    exact bodyPost_ret (v := .agg #[.int .i64 0, .int .i64 0, .int .i64 0, .int .i64 0]) (by simp [results, Try.results17, go_sem, *]) rfl ⟨rfl, BB.trans (B2.mono (by omega))⟩
  have hok := can_ok hc
  obtain ⟨q, rfl⟩ : ∃ q : Nat, k = q := ⟨k.toNat, by have := hc.1.1; omega⟩
  have hq : q < n := by have := hc.1.2; omega
  obtain ⟨b, off, t, hA, hb, TA, TR, ht⟩ := J1.at_ hq
  subst hA
  have hlv : lvl ts (q : Int) = t.m := by unfold lvl; rw [Int.toNat_natCast, List.getD, ht]; rfl
  rw [hlv] at hok
  have pu := sat_w (x := u) hok.2.1
  have pv := sat_w (x := v) hok.2.2.1
  have he : slv ts s u v (q : Int) f = fun i => if f = 1 then col ts s (sat u * t.m.w / 65536) (sat v * t.m.h / 65536) q i else if f = 2 then btw ts s (sat u * t.m.w - 32768) (sat v * t.m.h - 32768) q i else 0 := by
    funext i
    unfold slv
    rw [if_pos hc, hlv]
  rw [he]
  rw [decide_eq_true hc] at cs
  have cu := fun W => saturate_b u W
  have cv := fun W => saturate_b v W
  obtain ⟨su, hsu⟩ : ∃ x, sat u = x := ⟨_, rfl⟩
  obtain ⟨sv, hsv⟩ : ∃ x, sat v = x := ⟨_, rfl⟩
  rw [hsu] at cu pu ⊢
  rw [hsv] at cv pv ⊢
  have gu : IntKind.i64.wrap (su * t.m.w) = su * t.m.w := IntWalk.i64_in _ (by omega)
  have gv : IntKind.i64.wrap (sv * t.m.h) = sv * t.m.h := IntWalk.i64_in _ (by omega)
  obtain ⟨aa, haa⟩ : ∃ x, su * t.m.w = x := ⟨_, rfl⟩
  obtain ⟨bb, hbb⟩ : ∃ x, sv * t.m.h = x := ⟨_, rfl⟩
  rw [haa] at gu pu ⊢
  rw [hbb] at gv pv ⊢
  have gu2 : IntKind.i64.wrap (su * t.m.w) = aa := by rw [haa]; exact gu
  have gv2 : IntKind.i64.wrap (sv * t.m.h) = bb := by rw [hbb]; exact gv
  have gs : IntKind.i64.wrap (aa - 32768) = aa - 32768 := IntWalk.i64_in _ (by omega)
  have gt : IntKind.i64.wrap (bb - 32768) = bb - 32768 := IntWalk.i64_in _ (by omega)
  have CU := Lib.hid cu
  have CV := Lib.hid cv
  have CS := Lib.hid cs
  obtain ⟨_, e1, e2, _⟩ := TA
  have hqn : (q : Int) < (n : Int) := by omega
  clear gu gv haa hbb hsu hsv cu cv cs he hlv hc hok TR ht R hl
  rcases (show f = 1 ∨ f = 2 ∨ (f ≠ 1 ∧ f ≠ 2) by omega) with rfl | rfl | ⟨f1, f2⟩
  · have hr : (fun i => if (1 : Int) = 1 then col ts s (aa / 65536) (bb / 65536) q i else if (1 : Int) = 2 then btw ts s (aa - 32768) (bb - 32768) q i else 0) = col ts s (aa / 65536) (bb / 65536) q := by funext i; rw [if_pos rfl]
    rw [hr]
    have cg := fun W R => scol_b (some ⟨b, off, none⟩) n c ts s (aa / 65536) (bb / 65536) q W R hq (by omega)
    have cw := fun W => of_q (whole_q aa W)
    have cx := fun W => of_q (whole_q bb W)
    unfold GivesV at cg ⊢
    obtain ⟨x, hx⟩ : ∃ x, aa / 65536 = x := ⟨_, rfl⟩
    obtain ⟨y, hy⟩ : ∃ x, bb / 65536 = x := ⟨_, rfl⟩
    rw [hx] at cw
    rw [hy] at cx
    simp only [hx, hy] at cg ⊢
    obtain ⟨r, hrr⟩ : ∃ r, col ts s x y (q : Int) = r := ⟨_, rfl⟩
    simp only [hrr] at cg ⊢
    have CG := Lib.hid cg
    have CW := Lib.hid cw
    have CX := Lib.hid cx
    clear cg cw cx hx hy hrr hr gs gt pu pv hq hn
    go_enter Try.func17, Try.ntmps17
    go_wp2_with (first
      | (refine wpList_sload rfl _ _ rfl smpT S0 rfl ?_)
      | (go_at_call 36; (with_reducible refine (CS.out _ J1).mono ?_); rintro _ V1 ⟨rfl, B⟩; (replace BB := bon BB B; replace a0 := cell_below B a0; replace S0 := smp_below B S0; replace e1 := cell_below B e1; replace e2 := cell_below B e2; replace J1 := RdI.on J1 B); replace D := D.on B; clear B))
    have k_a0 := cell_regrown a0
    have k_S0 := smp_regrown S0
    have k_e1 := cell_regrown e1
    have k_e2 := cell_regrown e2
    refine wp_region_quiet_below (by kernel_rfl) (by kernel_rfl) ?_
    repeat (first | (go_big_quiet_want; refine quiet_sload _ _ rfl smpT (fun W hW => smp_class S0 hW) rfl ?_; go_simp; go_big_quiet_on) | (go_big_quiet_want; refine quiet_bload _ _ rfl bordT (fun W hW => smp_class S0 hW) rfl ?_; go_simp; go_big_quiet_on) | go_big_quiet_step ((first | (go_at_call 37; with_reducible exact Calls.regrown_of (CU.out _)) | (go_at_call 37; with_reducible exact Calls.regrown_of (CV.out _)))) | quiet_step ((first | (go_at_call 37; with_reducible exact Calls.regrown_of (CU.out _)) | (go_at_call 37; with_reducible exact Calls.regrown_of (CV.out _)))))
    refine wpQuiet_nil ?_
    intro W hw'
    have B := below_regrown' hw'
    clear hw' k_a0 k_S0 k_e1 k_e2
    replace BB := bon BB B
    replace a0 := cell_below B a0
    replace S0 := smp_below B S0
    replace e1 := cell_below B e1
    replace e2 := cell_below B e2
    replace J1 := RdI.on J1 B
    replace D := D.on B
    clear B CU CV CS gu2 gv2 e1 e2
    go_wp2
    have k_a0 := cell_regrown a0
    have k_S0 := smp_regrown S0
    refine wp_region_tail (n := 8) (by kernel_rfl) (by kernel_rfl) ?_
    simp only [List.take_succ_cons, List.take_zero, List.drop_succ_cons, List.drop_zero]
    repeat (first | (go_big_quiet_want; refine quiet_sload _ _ rfl smpT (fun W hW => smp_class S0 hW) rfl ?_; go_simp; go_big_quiet_on) | (go_big_quiet_want; refine quiet_bload _ _ rfl bordT (fun W hW => smp_class S0 hW) rfl ?_; go_simp; go_big_quiet_on) | go_big_quiet_step ((first | (go_at_call 33; with_reducible exact Calls.regrown_of (CW.out _)) | (go_at_call 33; with_reducible exact Calls.regrown_of (CX.out _)) | (go_at_call 38; with_reducible exact Calls.regrown_of (CG.out _ (J1.on (below_regrown _ _ _)))))) | quiet_step ((first | (go_at_call 33; with_reducible exact Calls.regrown_of (CW.out _)) | (go_at_call 33; with_reducible exact Calls.regrown_of (CX.out _)) | (go_at_call 38; with_reducible exact Calls.regrown_of (CG.out _ (J1.on (below_regrown _ _ _)))))))
    refine wpQuiet_nil ?_
    intro W hw'
    have B := below_regrown' hw'
    clear hw' k_a0 k_S0
    replace BB := bon BB B
    replace a0 := cell_below B a0
    replace S0 := smp_below B S0
    replace J1 := RdI.on J1 B
    replace D := D.on B
    clear B
    go_wp2_with (refine wpList_vset rfl _ _ _ rfl _ _ _ _ rfl rfl D (by kernel_rfl) ?_; intro V2 B2 D3 hD _)
    obtain ⟨⟨d0, d1, d2, d3⟩, _⟩ := D3
    exact bodyPost_ret (v := .agg #[.int .i64 (r 0), .int .i64 (r 1), .int .i64 (r 2), .int .i64 (r 3)]) (by simp [results, Try.results17, go_sem, *]) rfl ⟨rfl, BB.trans (B2.mono (by omega))⟩
  · have hr : (fun i => if (2 : Int) = 1 then col ts s (aa / 65536) (bb / 65536) q i else if (2 : Int) = 2 then btw ts s (aa - 32768) (bb - 32768) q i else 0) = btw ts s (aa - 32768) (bb - 32768) q := by funext i; rw [if_neg (by omega), if_pos rfl]
    rw [hr]
    have cg := fun W R => sbtw_b (some ⟨b, off, none⟩) n c ts s (aa - 32768) (bb - 32768) q W R hq (by omega) (by omega) (by omega)
    unfold GivesV at cg ⊢
    obtain ⟨r, hrr⟩ : ∃ r, btw ts s (aa - 32768) (bb - 32768) (q : Int) = r := ⟨_, rfl⟩
    simp only [hrr] at cg ⊢
    have CG := Lib.hid cg
    clear cg hrr hr pu pv hq hn
    go_enter Try.func17, Try.ntmps17
    go_wp2_with (first
      | (refine wpList_sload rfl _ _ rfl smpT S0 rfl ?_)
      | (go_at_call 36; (with_reducible refine (CS.out _ J1).mono ?_); rintro _ V1 ⟨rfl, B⟩; (replace BB := bon BB B; replace a0 := cell_below B a0; replace S0 := smp_below B S0; replace e1 := cell_below B e1; replace e2 := cell_below B e2; replace J1 := RdI.on J1 B); replace D := D.on B; clear B))
    have k_a0 := cell_regrown a0
    have k_S0 := smp_regrown S0
    have k_e1 := cell_regrown e1
    have k_e2 := cell_regrown e2
    refine wp_region_quiet_below (by kernel_rfl) (by kernel_rfl) ?_
    repeat (first | (go_big_quiet_want; refine quiet_sload _ _ rfl smpT (fun W hW => smp_class S0 hW) rfl ?_; go_simp; go_big_quiet_on) | (go_big_quiet_want; refine quiet_bload _ _ rfl bordT (fun W hW => smp_class S0 hW) rfl ?_; go_simp; go_big_quiet_on) | go_big_quiet_step ((first | (go_at_call 37; with_reducible exact Calls.regrown_of (CU.out _)) | (go_at_call 37; with_reducible exact Calls.regrown_of (CV.out _)))) | quiet_step ((first | (go_at_call 37; with_reducible exact Calls.regrown_of (CU.out _)) | (go_at_call 37; with_reducible exact Calls.regrown_of (CV.out _)))))
    refine wpQuiet_nil ?_
    intro W hw'
    have B := below_regrown' hw'
    clear hw' k_a0 k_S0 k_e1 k_e2
    replace BB := bon BB B
    replace a0 := cell_below B a0
    replace S0 := smp_below B S0
    replace e1 := cell_below B e1
    replace e2 := cell_below B e2
    replace J1 := RdI.on J1 B
    replace D := D.on B
    clear B CU CV CS gu2 gv2 e1 e2
    go_wp2_with (first
      | (refine wpList_sload rfl _ _ rfl smpT S0 rfl ?_)
      | (go_at_call 39; (with_reducible refine (CG.out _ J1).mono ?_); rintro _ V1 ⟨rfl, B⟩; (replace BB := bon BB B; replace a0 := cell_below B a0; replace S0 := smp_below B S0; replace J1 := RdI.on J1 B); replace D := D.on B; clear B)
      | (refine wpList_vset rfl _ _ _ rfl _ _ _ _ rfl rfl D (by kernel_rfl) ?_; intro V2 B2 D3 hD _))
    obtain ⟨⟨d0, d1, d2, d3⟩, _⟩ := D3
    exact bodyPost_ret (v := .agg #[.int .i64 (r 0), .int .i64 (r 1), .int .i64 (r 2), .int .i64 (r 3)]) (by simp [results, Try.results17, go_sem, *]) rfl ⟨rfl, BB.trans (B2.mono (by omega))⟩
  · have hr : (fun i => if f = 1 then col ts s (aa / 65536) (bb / 65536) q i else if f = 2 then btw ts s (aa - 32768) (bb - 32768) q i else 0) = fun _ => 0 := by funext i; rw [if_neg f1, if_neg f2]
    rw [hr]
    have t1 : (f == 1) = false := by simp [f1]
    have t2 : (f == 2) = false := by simp [f2]
    unfold GivesV
    clear hr pu pv hq f1 f2 gs gt hn
    go_enter Try.func17, Try.ntmps17
    go_wp2_with (first
      | (refine wpList_sload rfl _ _ rfl smpT S0 rfl ?_)
      | (go_at_call 36; (with_reducible refine (CS.out _ J1).mono ?_); rintro _ V1 ⟨rfl, B⟩; (replace BB := bon BB B; replace a0 := cell_below B a0; replace S0 := smp_below B S0; replace e1 := cell_below B e1; replace e2 := cell_below B e2; replace J1 := RdI.on J1 B); replace D := D.on B; clear B))
    have k_a0 := cell_regrown a0
    have k_S0 := smp_regrown S0
    have k_e1 := cell_regrown e1
    have k_e2 := cell_regrown e2
    refine wp_region_quiet_below (by kernel_rfl) (by kernel_rfl) ?_
    repeat (first | (go_big_quiet_want; refine quiet_sload _ _ rfl smpT (fun W hW => smp_class S0 hW) rfl ?_; go_simp; go_big_quiet_on) | (go_big_quiet_want; refine quiet_bload _ _ rfl bordT (fun W hW => smp_class S0 hW) rfl ?_; go_simp; go_big_quiet_on) | go_big_quiet_step ((first | (go_at_call 37; with_reducible exact Calls.regrown_of (CU.out _)) | (go_at_call 37; with_reducible exact Calls.regrown_of (CV.out _)))) | quiet_step ((first | (go_at_call 37; with_reducible exact Calls.regrown_of (CU.out _)) | (go_at_call 37; with_reducible exact Calls.regrown_of (CV.out _)))))
    refine wpQuiet_nil ?_
    intro W hw'
    have B := below_regrown' hw'
    clear hw' k_a0 k_S0 k_e1 k_e2
    replace BB := bon BB B
    replace a0 := cell_below B a0
    replace S0 := smp_below B S0
    replace e1 := cell_below B e1
    replace e2 := cell_below B e2
    replace J1 := RdI.on J1 B
    replace D := D.on B
    clear B CU CV CS gu2 gv2 e1 e2
    go_wp2_with (refine wpList_vset rfl _ _ _ rfl _ _ _ _ rfl rfl D (by kernel_rfl) ?_; intro V2 B2 D3 hD _)
    obtain ⟨⟨d0, d1, d2, d3⟩, _⟩ := D3
    exact bodyPost_ret (v := .agg #[.int .i64 0, .int .i64 0, .int .i64 0, .int .i64 0]) (by simp [results, Try.results17, go_sem, *]) rfl ⟨rfl, BB.trans (B2.mono (by omega))⟩

set_option maxRecDepth 100000 in
set_option maxHeartbeats 4000000 in
theorem ssmp_b (A : Option Addr) (n c : Nat) (ts : List Tx) (s : Nat → Int) (u v l : Int) (w : World) (R : RdI w w.heap.size A n ts) (hn : n ≤ 9223372036854775807) :
    Calls Try.prog 16 #[.agg #[.slice A n c], .agg (smps s), .int .i64 u, .int .i64 v, .int .i64 l] w (GivesV w (smv ts s u v l)) := by
  obtain ⟨BB, a0, S0, D⟩ := args_tsv w A n c s 41 27 25
  have J1 := R.on BB
  have hl := R.len
  have hr0 := lodv_rng s l
  have cl := fun W => slod_b s l W
  obtain ⟨d, hd⟩ : ∃ d, lodv s l = d := ⟨_, rfl⟩
  have hmin : ∀ (at_ : Array TypeId) (t : TypeId) (x y : Int) (w : World), (Builtin.min_ at_ t #[.int .i64 x, .int .i64 y]).run Try.prog w = .ok (.int .i64 (mn x y)) w := fun at_ t x y w => by simp [Builtin.min_, Builtin.min2, mn]
  have g0 : IntKind.i64.wrap ((n : Int) - 1) = (n : Int) - 1 := IntWalk.i64_in _ (by omega)
  rw [hd] at cl hr0
  have CL := Lib.hid cl
  by_cases h4 : s 4 = 1
  · have hs : smv ts s u v l = slv ts s u v (mn ((d + 32768) / 65536) ((n : Int) - 1)) (sfil s d) := by funext i; unfold smv; rw [if_pos h4, hd, hl]
    rw [hs]
    have t4 : (s 4 == 1) = true := by simp [h4]
    have g1 : IntKind.i64.wrap (d + 32768) = d + 32768 := IntWalk.i64_in _ (by omega)
    have cw := fun W => of_q (whole_q (d + 32768) W)
    have cg := fun W R => sslv_b A n c ts s u v (mn ((d + 32768) / 65536) ((n : Int) - 1)) (sfil s d) W R hn
    unfold GivesV at cg ⊢
    obtain ⟨m, hm⟩ : ∃ m, (d + 32768) / 65536 = m := ⟨_, rfl⟩
    rw [hm] at cw
    simp only [hm] at cg ⊢
    obtain ⟨p, hp⟩ : ∃ p, mn m ((n : Int) - 1) = p := ⟨_, rfl⟩
    simp only [hp] at cg ⊢
    obtain ⟨r, hrr⟩ : ∃ r, slv ts s u v p (sfil s d) = r := ⟨_, rfl⟩
    simp only [hrr] at cg ⊢
    have CW := Lib.hid cw
    by_cases h0 : d = 0
    · have hf : sfil s d = s 2 := if_pos h0
      have t0 : (d == 0) = true := by simp [h0]
      rw [hf] at cg
      have CG := Lib.hid cg
      clear cl cw cg hs hm hrr hf h0 h4 hr0 hd hl R hn
      go_enter Try.func16, Try.ntmps16
      go_wp2_with (first
        | (refine wpList_sload rfl _ _ rfl smpT S0 rfl ?_)
        | (go_at_call 8; (with_reducible refine (CL.out _).mono ?_); rintro _ V1 ⟨rfl, B⟩; (replace BB := bon BB B; replace a0 := cell_below B a0; replace S0 := smp_below B S0; replace J1 := RdI.on J1 B); replace D := D.on B; clear B))
      have k_a0 := cell_regrown a0
      have k_S0 := smp_regrown S0
      refine wp_region_tail (n := 11) (by kernel_rfl) (by kernel_rfl) ?_
      simp only [List.take_succ_cons, List.take_zero, List.drop_succ_cons, List.drop_zero]
      repeat (first | (go_big_quiet_want; refine quiet_sload _ _ rfl smpT (fun W hW => smp_class S0 hW) rfl ?_; go_simp; go_big_quiet_on) | (go_big_quiet_want; refine quiet_bload _ _ rfl bordT (fun W hW => smp_class S0 hW) rfl ?_; go_simp; go_big_quiet_on) | go_big_quiet_step ((first | (go_at_call 33; with_reducible exact Calls.regrown_of (CW.out _)) | (go_at_call 17; with_reducible exact Calls.regrown_of (CG.out _ (J1.on (below_regrown _ _ _)))))) | quiet_step ((first | (go_at_call 33; with_reducible exact Calls.regrown_of (CW.out _)) | (go_at_call 17; with_reducible exact Calls.regrown_of (CG.out _ (J1.on (below_regrown _ _ _)))))))
      refine wpQuiet_nil ?_
      intro W hw'
      have B := below_regrown' hw'
      clear hw' k_a0 k_S0
      replace BB := bon BB B
      replace a0 := cell_below B a0
      replace S0 := smp_below B S0
      replace J1 := RdI.on J1 B
      replace D := D.on B
      clear B
      go_wp2_with (refine wpList_vset rfl _ _ _ rfl _ _ _ _ rfl rfl D (by kernel_rfl) ?_; intro V2 B2 D3 hD _)
      obtain ⟨⟨d0, d1, d2, d3⟩, _⟩ := D3
      exact bodyPost_ret (v := .agg #[.int .i64 (r 0), .int .i64 (r 1), .int .i64 (r 2), .int .i64 (r 3)]) (by simp [results, Try.results16, go_sem, *]) rfl ⟨rfl, BB.trans (B2.mono (by omega))⟩
    · have hf : sfil s d = s 3 := if_neg h0
      have t0 : (d == 0) = false := by simp [h0]
      rw [hf] at cg
      have CG := Lib.hid cg
      clear cl cw cg hs hm hrr hf h0 h4 hr0 hd hl R hn
      go_enter Try.func16, Try.ntmps16
      go_wp2_with (first
        | (refine wpList_sload rfl _ _ rfl smpT S0 rfl ?_)
        | (go_at_call 8; (with_reducible refine (CL.out _).mono ?_); rintro _ V1 ⟨rfl, B⟩; (replace BB := bon BB B; replace a0 := cell_below B a0; replace S0 := smp_below B S0; replace J1 := RdI.on J1 B); replace D := D.on B; clear B))
      have k_a0 := cell_regrown a0
      have k_S0 := smp_regrown S0
      refine wp_region_tail (n := 11) (by kernel_rfl) (by kernel_rfl) ?_
      simp only [List.take_succ_cons, List.take_zero, List.drop_succ_cons, List.drop_zero]
      repeat (first | (go_big_quiet_want; refine quiet_sload _ _ rfl smpT (fun W hW => smp_class S0 hW) rfl ?_; go_simp; go_big_quiet_on) | (go_big_quiet_want; refine quiet_bload _ _ rfl bordT (fun W hW => smp_class S0 hW) rfl ?_; go_simp; go_big_quiet_on) | go_big_quiet_step ((first | (go_at_call 33; with_reducible exact Calls.regrown_of (CW.out _)) | (go_at_call 17; with_reducible exact Calls.regrown_of (CG.out _ (J1.on (below_regrown _ _ _)))))) | quiet_step ((first | (go_at_call 33; with_reducible exact Calls.regrown_of (CW.out _)) | (go_at_call 17; with_reducible exact Calls.regrown_of (CG.out _ (J1.on (below_regrown _ _ _)))))))
      refine wpQuiet_nil ?_
      intro W hw'
      have B := below_regrown' hw'
      clear hw' k_a0 k_S0
      replace BB := bon BB B
      replace a0 := cell_below B a0
      replace S0 := smp_below B S0
      replace J1 := RdI.on J1 B
      replace D := D.on B
      clear B
      go_wp2_with (refine wpList_vset rfl _ _ _ rfl _ _ _ _ rfl rfl D (by kernel_rfl) ?_; intro V2 B2 D3 hD _)
      obtain ⟨⟨d0, d1, d2, d3⟩, _⟩ := D3
      exact bodyPost_ret (v := .agg #[.int .i64 (r 0), .int .i64 (r 1), .int .i64 (r 2), .int .i64 (r 3)]) (by simp [results, Try.results16, go_sem, *]) rfl ⟨rfl, BB.trans (B2.mono (by omega))⟩
  · have hs : smv ts s u v l = fun i => lerpv (slv ts s u v (mn (d / 65536) ((n : Int) - 1)) (sfil s d) i) (slv ts s u v (mn (d / 65536 + 1) ((n : Int) - 1)) (sfil s d) i) (d % 65536) := by funext i; unfold smv; rw [if_neg h4, hd, hl]
    rw [hs]
    have t4 : (s 4 == 1) = false := by simp [h4]
    have cw := fun W => of_q (whole_q d W)
    have cf := fun W => of_q (fraction_q d W)
    have cg := fun W R => sslv_b A n c ts s u v (mn (d / 65536) ((n : Int) - 1)) (sfil s d) W R hn
    have ch := fun W R => sslv_b A n c ts s u v (mn (d / 65536 + 1) ((n : Int) - 1)) (sfil s d) W R hn
    have g1 : IntKind.i64.wrap (d / 65536 + 1) = d / 65536 + 1 := IntWalk.i64_in _ (by omega)
    unfold GivesV at cg ch ⊢
    obtain ⟨m, hm⟩ : ∃ m, d / 65536 = m := ⟨_, rfl⟩
    rw [hm] at cw g1
    simp only [hm] at cg ch ⊢
    obtain ⟨p, hp⟩ : ∃ p, mn m ((n : Int) - 1) = p := ⟨_, rfl⟩
    obtain ⟨p', hp'⟩ : ∃ p, mn (m + 1) ((n : Int) - 1) = p := ⟨_, rfl⟩
    obtain ⟨y, hy⟩ : ∃ y, d % 65536 = y := ⟨_, rfl⟩
    rw [hy] at cf
    simp only [hp] at cg ⊢
    simp only [hp'] at ch ⊢
    simp only [hy]
    obtain ⟨r, hrr⟩ : ∃ r, slv ts s u v p (sfil s d) = r := ⟨_, rfl⟩
    obtain ⟨r', hrr'⟩ : ∃ r, slv ts s u v p' (sfil s d) = r := ⟨_, rfl⟩
    simp only [hrr] at cg ⊢
    simp only [hrr'] at ch ⊢
    have CW := Lib.hid cw
    have CF := Lib.hid cf
    have CE := Lib.hid (fun W => lerp4 (r 0) (r 1) (r 2) (r 3) (r' 0) (r' 1) (r' 2) (r' 3) y W)
    by_cases h0 : d = 0
    · have hf : sfil s d = s 2 := if_pos h0
      have t0 : (d == 0) = true := by simp [h0]
      rw [hf] at cg ch
      have CG := Lib.hid cg
      have CH := Lib.hid ch
      clear cl cw cf cg ch hs hm hy hrr hrr' hf h0 h4 hr0 hd hl R hn
      go_enter Try.func16, Try.ntmps16
      go_wp2_with (first
        | (refine wpList_sload rfl _ _ rfl smpT S0 rfl ?_)
        | (go_at_call 33; (with_reducible refine (CW.out _).mono ?_); rintro _ V1 ⟨rfl, B⟩; (replace BB := bon BB B; replace a0 := cell_below B a0; replace S0 := smp_below B S0; replace J1 := RdI.on J1 B); replace D := D.on B; clear B)
        | (go_at_call 8; (with_reducible refine (CL.out _).mono ?_); rintro _ V1 ⟨rfl, B⟩; (replace BB := bon BB B; replace a0 := cell_below B a0; replace S0 := smp_below B S0; replace J1 := RdI.on J1 B); replace D := D.on B; clear B))
      have k_a0 := cell_regrown a0
      have k_S0 := smp_regrown S0
      refine wp_region_tail (n := 17) (by kernel_rfl) (by kernel_rfl) ?_
      simp only [List.take_succ_cons, List.take_zero, List.drop_succ_cons, List.drop_zero]
      repeat (first | (go_big_quiet_want; refine quiet_sload _ _ rfl smpT (fun W hW => smp_class S0 hW) rfl ?_; go_simp; go_big_quiet_on) | (go_big_quiet_want; refine quiet_bload _ _ rfl bordT (fun W hW => smp_class S0 hW) rfl ?_; go_simp; go_big_quiet_on) | go_big_quiet_step ((first | (go_at_call 17; with_reducible exact Calls.regrown_of (CG.out _ (J1.on (below_regrown _ _ _)))) | (go_at_call 17; with_reducible exact Calls.regrown_of (CH.out _ (J1.on (below_regrown _ _ _)))) | (go_at_call 35; with_reducible exact Calls.regrown_of (CF.out _)) | (go_at_call 34; with_reducible exact Calls.regrown_of (CE.out _)))) | quiet_step ((first | (go_at_call 17; with_reducible exact Calls.regrown_of (CG.out _ (J1.on (below_regrown _ _ _)))) | (go_at_call 17; with_reducible exact Calls.regrown_of (CH.out _ (J1.on (below_regrown _ _ _)))) | (go_at_call 35; with_reducible exact Calls.regrown_of (CF.out _)) | (go_at_call 34; with_reducible exact Calls.regrown_of (CE.out _)))))
      refine wpQuiet_nil ?_
      intro W hw'
      have B := below_regrown' hw'
      clear hw' k_a0 k_S0
      replace BB := bon BB B
      replace a0 := cell_below B a0
      replace S0 := smp_below B S0
      replace J1 := RdI.on J1 B
      replace D := D.on B
      clear B
      go_wp2_with (refine wpList_vset rfl _ _ _ rfl _ _ _ _ rfl rfl D (by kernel_rfl) ?_; intro V2 B2 D3 hD _)
      obtain ⟨⟨d0, d1, d2, d3⟩, _⟩ := D3
      exact bodyPost_ret (v := .agg #[.int .i64 (lerpv (r 0) (r' 0) y), .int .i64 (lerpv (r 1) (r' 1) y), .int .i64 (lerpv (r 2) (r' 2) y), .int .i64 (lerpv (r 3) (r' 3) y)]) (by simp [results, Try.results16, go_sem, *]) rfl ⟨rfl, BB.trans (B2.mono (by omega))⟩
    · have hf : sfil s d = s 3 := if_neg h0
      have t0 : (d == 0) = false := by simp [h0]
      rw [hf] at cg ch
      have CG := Lib.hid cg
      have CH := Lib.hid ch
      clear cl cw cf cg ch hs hm hy hrr hrr' hf h0 h4 hr0 hd hl R hn
      go_enter Try.func16, Try.ntmps16
      go_wp2_with (first
        | (refine wpList_sload rfl _ _ rfl smpT S0 rfl ?_)
        | (go_at_call 33; (with_reducible refine (CW.out _).mono ?_); rintro _ V1 ⟨rfl, B⟩; (replace BB := bon BB B; replace a0 := cell_below B a0; replace S0 := smp_below B S0; replace J1 := RdI.on J1 B); replace D := D.on B; clear B)
        | (go_at_call 8; (with_reducible refine (CL.out _).mono ?_); rintro _ V1 ⟨rfl, B⟩; (replace BB := bon BB B; replace a0 := cell_below B a0; replace S0 := smp_below B S0; replace J1 := RdI.on J1 B); replace D := D.on B; clear B))
      have k_a0 := cell_regrown a0
      have k_S0 := smp_regrown S0
      refine wp_region_tail (n := 17) (by kernel_rfl) (by kernel_rfl) ?_
      simp only [List.take_succ_cons, List.take_zero, List.drop_succ_cons, List.drop_zero]
      repeat (first | (go_big_quiet_want; refine quiet_sload _ _ rfl smpT (fun W hW => smp_class S0 hW) rfl ?_; go_simp; go_big_quiet_on) | (go_big_quiet_want; refine quiet_bload _ _ rfl bordT (fun W hW => smp_class S0 hW) rfl ?_; go_simp; go_big_quiet_on) | go_big_quiet_step ((first | (go_at_call 17; with_reducible exact Calls.regrown_of (CG.out _ (J1.on (below_regrown _ _ _)))) | (go_at_call 17; with_reducible exact Calls.regrown_of (CH.out _ (J1.on (below_regrown _ _ _)))) | (go_at_call 35; with_reducible exact Calls.regrown_of (CF.out _)) | (go_at_call 34; with_reducible exact Calls.regrown_of (CE.out _)))) | quiet_step ((first | (go_at_call 17; with_reducible exact Calls.regrown_of (CG.out _ (J1.on (below_regrown _ _ _)))) | (go_at_call 17; with_reducible exact Calls.regrown_of (CH.out _ (J1.on (below_regrown _ _ _)))) | (go_at_call 35; with_reducible exact Calls.regrown_of (CF.out _)) | (go_at_call 34; with_reducible exact Calls.regrown_of (CE.out _)))))
      refine wpQuiet_nil ?_
      intro W hw'
      have B := below_regrown' hw'
      clear hw' k_a0 k_S0
      replace BB := bon BB B
      replace a0 := cell_below B a0
      replace S0 := smp_below B S0
      replace J1 := RdI.on J1 B
      replace D := D.on B
      clear B
      go_wp2_with (refine wpList_vset rfl _ _ _ rfl _ _ _ _ rfl rfl D (by kernel_rfl) ?_; intro V2 B2 D3 hD _)
      obtain ⟨⟨d0, d1, d2, d3⟩, _⟩ := D3
      exact bodyPost_ret (v := .agg #[.int .i64 (lerpv (r 0) (r' 0) y), .int .i64 (lerpv (r 1) (r' 1) y), .int .i64 (lerpv (r 2) (r' 2) y), .int .i64 (lerpv (r 3) (r' 3) y)]) (by simp [results, Try.results16, go_sem, *]) rfl ⟨rfl, BB.trans (B2.mono (by omega))⟩

end Go.Proofs.Ytoipmldbjciinaa
