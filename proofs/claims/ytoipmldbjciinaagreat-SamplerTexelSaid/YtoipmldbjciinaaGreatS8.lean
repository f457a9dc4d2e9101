/- SampleLevel and Sample of the reference; the walks of SamplerFilters and SamplerTexel. -/
import Derived.Test.YtoipmldbjciinaaGreatS7
import Derived.Test.YtoipmldbjciinaaGreatS5
import Derived.Test.YtoipmldbjciinaaGreatOpenS
namespace Go.Proofs.YtoipmldbjciinaaGreat
open Go.RowKit Go.Sort
set_option linter.unusedVariables false

section
variable {P : Program} {ops : Array Oper} {Q : Exit → Act → World → Prop} {rest : List Oper} {a : Act} {W : World} {b : Nat} {s : Nat → Int}
/-- A sampler loaded, something stored, as the operations are written out. -/
theorem sloadL {dst : Option Tmp} {ty t : TypeId} {x : Operand} {pos : String} {after : Array Edge} (T : RowT P t 12) (k : (∀ i, i < 12 → W.cell? ⟨b, i, none⟩ = some (.int .i64 (s i)))) (hx : a.eval x = .pointer (some ⟨b, 0, none⟩))
    (H : wpList P ops Q rest (a.put dst (.agg (smps s))) W) : wpList P ops Q ({ dst := dst, op := .load t x, type := ty, pos := pos, after := after, guard := none } :: rest) a W :=
  wpList_sload rfl t x rfl T k hx H
theorem storeL0 {dst : Option Tmp} {ty t : TypeId} {x y : Operand} {pos : String} {after : Array Edge}
    (H : wpList P ops Q ({ dst := dst, op := .store t x y, type := ty, pos := pos, after := after, guard := none } :: rest) a W) : wpList P ops Q ({ dst := dst, op := .store t x y, type := ty, pos := pos, after := after, guard := none } :: rest) a W := H
end

set_option maxRecDepth 100000 in
set_option maxHeartbeats 4000000 in
theorem rslv_b (A : Option Addr) (n c : Nat) (ts : List Tx) (s : Nat → Int) (u v k f : Int) (w : World) (R : RdI w w.heap.size A n ts) (hn : n ≤ 9223372036854775807) :
    Calls Tryz.prog 6 #[.agg #[.slice A n c], .agg (smps s), .int .i64 u, .int .i64 v, .int .i64 k, .int .i64 f] w (GivesV w (slv ts s u v k f)) := by
  by_cases hc : can ts s k
  rotate_left
  · obtain ⟨BB, a0, S0, D⟩ := args_tsv w A n c s 24 30 28
    have J1 := R.on BB
    have cs := fun W R => rslevel_b A n c ts s k W R hn
    have he : slv ts s u v k f = fun _ => 0 := by funext i; exact slv_no hc i
    rw [he]
    rw [decide_eq_false hc] at cs
    unfold GivesV
    have CS := Lib.hid cs
    clear cs hc he R hn
    go_enter Tryz.func6, Tryz.ntmps6
    go_wp2_with (first
      | (go_at_call 19; (with_reducible refine (CS.out _ J1).mono ?_); rintro _ V1 ⟨rfl, B⟩; (replace BB := bon BB B; replace a0 := cell_below B a0; replace S0 := smp_below B S0; replace J1 := RdI.on J1 B); replace D := D.on B; clear B)
      | ((with_reducible refine sloadL smpT S0 ?_ ?_); focus rfl)
      | ((with_reducible refine storeL0 ?_); refine wpList_vset rfl _ _ _ rfl _ _ _ _ rfl rfl D (by kernel_rfl) ?_; intro V2 B2 D3 hD _))
    obtain ⟨⟨d0, d1, d2, d3⟩, _⟩ := D3
    exact bodyPost_ret (v := .agg #[.int .i64 0, .int .i64 0, .int .i64 0, .int .i64 0]) (by simp [results, Tryz.results6, go_sem, *]) rfl ⟨rfl, BB.trans (B2.mono (by omega))⟩
  obtain ⟨q, rfl⟩ : ∃ q : Nat, k = q := ⟨k.toNat, by have := hc.1.1; omega⟩
  by_cases hf2 : f = 2
  · subst hf2
    exact rslv2_b A n c ts s u v q w R hn hc
  obtain ⟨BB, a0, S0, D⟩ := args_tsv w A n c s 24 30 28
  have J1 := R.on BB
  have hl := R.len
  have cs := fun W R => rslevel_b A n c ts s q W R hn
  rw [decide_eq_true hc] at cs
  have CS := Lib.hid cs
  by_cases hf1 : f = 1
  rotate_left
  · have he : slv ts s u v q f = fun _ => 0 := by funext i; unfold slv; rw [if_pos hc, if_neg hf1, if_neg hf2]
    rw [he]
    have cfl := fun W => of_q (rfilter_q f W)
    rw [decide_eq_false (show ¬ (f = 1 ∨ f = 2) by omega)] at cfl
    have CFL := Lib.hid cfl
    unfold GivesV
    clear cs cfl hc he R hn hf1 hf2 hl
    go_enter Tryz.func6, Tryz.ntmps6
    go_wp2_with (first
      | (go_at_call 19; (with_reducible refine (CS.out _ J1).mono ?_); rintro _ V1 ⟨rfl, B⟩; (replace BB := bon BB B; replace a0 := cell_below B a0; replace S0 := smp_below B S0; replace J1 := RdI.on J1 B); replace D := D.on B; clear B)
      | (go_at_call 20; (with_reducible refine (CFL.out _).mono ?_); rintro _ V1 ⟨rfl, B⟩; (replace BB := bon BB B; replace a0 := cell_below B a0; replace S0 := smp_below B S0; replace J1 := RdI.on J1 B); replace D := D.on B; clear B)
      | ((with_reducible refine sloadL smpT S0 ?_ ?_); focus rfl)
      | ((with_reducible refine storeL0 ?_); refine wpList_vset rfl _ _ _ rfl _ _ _ _ rfl rfl D (by kernel_rfl) ?_; intro V2 B2 D3 hD _))
    obtain ⟨⟨d0, d1, d2, d3⟩, _⟩ := D3
    exact bodyPost_ret (v := .agg #[.int .i64 0, .int .i64 0, .int .i64 0, .int .i64 0]) (by simp [results, Tryz.results6, go_sem, *]) rfl ⟨rfl, BB.trans (B2.mono (by omega))⟩
  subst hf1
  have cfl := fun W => of_q (rfilter_q 1 W)
  have CFL := Lib.hid cfl
  have hok := can_ok hc
  have hq : q < n := by have := hc.1.2; omega
  obtain ⟨b, off, t, hA, hb, TA, TR, ht⟩ := J1.at_ hq
  subst hA
  have hlv : lvl ts (q : Int) = t.m := by unfold lvl; rw [Int.toNat_natCast, List.getD, ht]; rfl
  rw [hlv] at hok
  have pu := sat_w (x := u) hok.2.1
  have pv := sat_w (x := v) hok.2.2.1
  have he : slv ts s u v (q : Int) 1 = col ts s (sat u * t.m.w / 65536) (sat v * t.m.h / 65536) q := by
    funext i
    unfold slv
    rw [if_pos hc, hlv, if_pos rfl]
  rw [he]
  have cu := fun W => rsaturate_b u W
  have cv := fun W => rsaturate_b v W
  obtain ⟨su, hsu⟩ : ∃ x, sat u = x := ⟨_, rfl⟩
  obtain ⟨sv, hsv⟩ : ∃ x, sat v = x := ⟨_, rfl⟩
  rw [hsu] at cu pu ⊢
  rw [hsv] at cv pv ⊢
  obtain ⟨aa, haa⟩ : ∃ x, su * t.m.w = x := ⟨_, rfl⟩
  obtain ⟨bb, hbb⟩ : ∃ x, sv * t.m.h = x := ⟨_, rfl⟩
  rw [haa] at pu ⊢
  rw [hbb] at pv ⊢
  have gu2 : IntKind.i64.wrap (su * t.m.w) = aa := by rw [haa]; exact IntWalk.i64_in _ (by omega)
  have gv2 : IntKind.i64.wrap (sv * t.m.h) = bb := by rw [hbb]; exact IntWalk.i64_in _ (by omega)
  have CU := Lib.hid cu
  have CV := Lib.hid cv
  obtain ⟨_, e1, e2, _⟩ := TA
  have hqn : (q : Int) < (n : Int) := by omega
  have cwx := fun W => rsplit_q aa W (by omega) (by omega)
  have cwy := fun W => rsplit_q bb W (by omega) (by omega)
  have cg := fun W R => rscol_b (some ⟨b, off, none⟩) n c ts s (aa / 65536) (bb / 65536) q W R hq (by omega)
  unfold GivesV at cg ⊢
  obtain ⟨x, hx⟩ : ∃ x, aa / 65536 = x := ⟨_, rfl⟩
  obtain ⟨y, hy⟩ : ∃ x, bb / 65536 = x := ⟨_, rfl⟩
  rw [hx] at cwx
  rw [hy] at cwy
  simp only [hx, hy] at cg ⊢
  obtain ⟨r, hrr⟩ : ∃ r, col ts s x y (q : Int) = r := ⟨_, rfl⟩
  simp only [hrr] at cg ⊢
  have CG := Lib.hid cg
  have CWX := Lib.hid cwx
  have CWY := Lib.hid cwy
  clear cs cfl cu cv cg cwx cwy hx hy hrr hsu hsv haa hbb he hlv hok hc pu pv TR ht R hl hn hq hf2
  go_enter Tryz.func6, Tryz.ntmps6
  go_wp2_with (first
    | (go_at_call 19; (with_reducible refine (CS.out _ J1).mono ?_); rintro _ V1 ⟨rfl, B⟩; (replace BB := bon BB B; replace a0 := cell_below B a0; replace S0 := smp_below B S0; replace e1 := cell_below B e1; replace e2 := cell_below B e2; replace J1 := RdI.on J1 B); replace D := D.on B; clear B)
    | (go_at_call 20; (with_reducible refine (CFL.out _).mono ?_); rintro _ V1 ⟨rfl, B⟩; (replace BB := bon BB B; replace a0 := cell_below B a0; replace S0 := smp_below B S0; replace e1 := cell_below B e1; replace e2 := cell_below B e2; replace J1 := RdI.on J1 B); replace D := D.on B; clear B)
    | ((with_reducible refine sloadL smpT S0 ?_ ?_); focus rfl))
  have k_a0 := cell_regrown a0
  have k_S0 := smp_regrown S0
  have k_e1 := cell_regrown e1
  have k_e2 := cell_regrown e2
  refine wp_region_quiet_below (by kernel_rfl) (by kernel_rfl) ?_
  repeat (first | (go_big_quiet_want; refine quiet_sload _ _ rfl smpT (fun W hW => smp_class S0 hW) rfl ?_; go_simp; go_big_quiet_on) | (go_big_quiet_want; refine quiet_bload _ _ rfl bordT (fun W hW => smp_class S0 hW) rfl ?_; go_simp; go_big_quiet_on) | go_big_quiet_step ((first | (go_at_call 21; with_reducible exact Calls.regrown_of (CU.out _)) | (go_at_call 21; with_reducible exact Calls.regrown_of (CV.out _)))) | quiet_step ((first | (go_at_call 21; with_reducible exact Calls.regrown_of (CU.out _)) | (go_at_call 21; with_reducible exact Calls.regrown_of (CV.out _)))))
  refine wpQuiet_nil ?_
  intro W hw'
  have B := below_regrown' hw'
  clear hw' k_a0 k_S0 k_e1 k_e2
  replace BB := bon BB B
  replace a0 := cell_below B a0
  replace S0 := smp_below B S0
  replace e1 := cell_below B e1
  replace e2 := cell_below B e2
  replace J1 := RdI.on J1 B
  replace D := D.on B
  clear B CU CV CS CFL gu2 gv2 e1 e2
  go_wp2_with (first
    | (go_at_call 22; (with_reducible refine (CWX.out _).mono ?_); rintro _ _ ⟨rfl, rfl⟩)
    | (go_at_call 22; (with_reducible refine (CWY.out _).mono ?_); rintro _ _ ⟨rfl, rfl⟩)
    | (go_at_call 23; (with_reducible refine (CG.out _ J1).mono ?_); rintro _ V1 ⟨rfl, B⟩; (replace BB := bon BB B; replace a0 := cell_below B a0; replace S0 := smp_below B S0; replace J1 := RdI.on J1 B); replace D := D.on B; clear B)
    | ((with_reducible refine sloadL smpT S0 ?_ ?_); focus rfl)
    | ((with_reducible refine storeL0 ?_); refine wpList_vset rfl _ _ _ rfl _ _ _ _ rfl rfl D (by kernel_rfl) ?_; intro V2 B2 D3 hD _))
  obtain ⟨⟨d0, d1, d2, d3⟩, _⟩ := D3
  exact bodyPost_ret (v := .agg #[.int .i64 (r 0), .int .i64 (r 1), .int .i64 (r 2), .int .i64 (r 3)]) (by simp [results, Tryz.results6, go_sem, *]) rfl ⟨rfl, BB.trans (B2.mono (by omega))⟩

set_option maxRecDepth 100000 in
set_option maxHeartbeats 4000000 in
theorem rsmp_b (A : Option Addr) (n c : Nat) (ts : List Tx) (s : Nat → Int) (u v l : Int) (w : World) (R : RdI w w.heap.size A n ts) (hn : n ≤ 9223372036854775807) :
    Calls Tryz.prog 8 #[.agg #[.slice A n c], .agg (smps s), .int .i64 u, .int .i64 v, .int .i64 l] w (GivesV w (smv ts s u v l)) := by
  obtain ⟨BB, a0, S0, D⟩ := args_tsv w A n c s 24 30 28
  have J1 := R.on BB
  have hl := R.len
  have cs := fun W R => rslevel_b A n c ts s 0 W R hn
  by_cases hc : can ts s 0
  rotate_left
  · have he : smv ts s u v l = fun _ => 0 := by funext i; exact smv_no hc i
    rw [he]
    rw [decide_eq_false hc] at cs
    unfold GivesV
    have CS := Lib.hid cs
    clear cs hc he R hl hn
    go_enter Tryz.func8, Tryz.ntmps8
    go_wp2_with (first
      | (go_at_call 19; (with_reducible refine (CS.out _ J1).mono ?_); rintro _ V1 ⟨rfl, B⟩; (replace BB := bon BB B; replace a0 := cell_below B a0; replace S0 := smp_below B S0; replace J1 := RdI.on J1 B); replace D := D.on B; clear B)
      | ((with_reducible refine sloadL smpT S0 ?_ ?_); focus rfl)
      | ((with_reducible refine storeL0 ?_); refine wpList_vset rfl _ _ _ rfl _ _ _ _ rfl rfl D (by kernel_rfl) ?_; intro V2 B2 D3 hD _))
    obtain ⟨⟨d0, d1, d2, d3⟩, _⟩ := D3
    exact bodyPost_ret (v := .agg #[.int .i64 0, .int .i64 0, .int .i64 0, .int .i64 0]) (by simp [results, Tryz.results8, go_sem, *]) rfl ⟨rfl, BB.trans (B2.mono (by omega))⟩
  rw [decide_eq_true hc] at cs
  have CS := Lib.hid cs
  clear cs hc
  have hr0 := lodv_rng s l
  have cl := fun W => rslod_b s l W
  obtain ⟨d, hd⟩ : ∃ d, lodv s l = d := ⟨_, rfl⟩
  have hmin : ∀ (at_ : Array TypeId) (t : TypeId) (x y : Int) (w : World), (Builtin.min_ at_ t #[.int .i64 x, .int .i64 y]).run Tryz.prog w = .ok (.int .i64 (mn x y)) w := fun at_ t x y w => by simp [Builtin.min_, Builtin.min2, mn]
  have g0 : IntKind.i64.wrap ((n : Int) - 1) = (n : Int) - 1 := IntWalk.i64_in _ (by omega)
  rw [hd] at cl hr0
  have CL := Lib.hid cl
  by_cases h4 : s 4 = 1
  · have hs : smv ts s u v l = slv ts s u v (mn ((d + 32768) / 65536) ((n : Int) - 1)) (sfil s d) := by funext i; unfold smv; rw [if_pos h4, hd, hl]
    rw [hs]
    have t4 : (s 4 == 1) = true := by simp [h4]
    have g1 : IntKind.i64.wrap (d + 32768) = d + 32768 := IntWalk.i64_in _ (by omega)
    have cw := fun W => rsplit_q (d + 32768) W (by omega) (by omega)
    have cg := fun W R => rslv_b A n c ts s u v (mn ((d + 32768) / 65536) ((n : Int) - 1)) (sfil s d) W R hn
    unfold GivesV at cg ⊢
    obtain ⟨m, hm⟩ : ∃ m, (d + 32768) / 65536 = m := ⟨_, rfl⟩
    rw [hm] at cw
    simp only [hm] at cg ⊢
    obtain ⟨p, hp⟩ : ∃ p, mn m ((n : Int) - 1) = p := ⟨_, rfl⟩
    simp only [hp] at cg ⊢
    obtain ⟨r, hrr⟩ : ∃ r, slv ts s u v p (sfil s d) = r := ⟨_, rfl⟩
    simp only [hrr] at cg ⊢
    have CW := Lib.hid cw
    by_cases h0 : d = 0
    · have hf : sfil s d = s 2 := if_pos h0
      have t0 : (d == 0) = true := by simp [h0]
      rw [hf] at cg
      have CG := Lib.hid cg
      clear cl cw cg hs hm hrr hf h0 h4 hr0 hd hl R hn
      go_enter Tryz.func8, Tryz.ntmps8
      go_wp2_with (first
        | ((with_reducible refine sloadL smpT S0 ?_ ?_); focus rfl)
        | (go_at_call 19; (with_reducible refine (CS.out _ J1).mono ?_); rintro _ V1 ⟨rfl, B⟩; (replace BB := bon BB B; replace a0 := cell_below B a0; replace S0 := smp_below B S0; replace J1 := RdI.on J1 B); replace D := D.on B; clear B)
        | (go_at_call 22; (with_reducible refine (CW.out _).mono ?_); rintro _ _ ⟨rfl, rfl⟩)
        | (go_at_call 28; (with_reducible refine (CL.out _).mono ?_); rintro _ V1 ⟨rfl, B⟩; (replace BB := bon BB B; replace a0 := cell_below B a0; replace S0 := smp_below B S0; replace J1 := RdI.on J1 B); replace D := D.on B; clear B)
        | (go_at_call 6; (with_reducible refine (CG.out _ J1).mono ?_); rintro _ V1 ⟨rfl, B⟩; (replace BB := bon BB B; replace a0 := cell_below B a0; replace S0 := smp_below B S0; replace J1 := RdI.on J1 B); replace D := D.on B; clear B)
        | ((with_reducible refine storeL0 ?_); refine wpList_vset rfl _ _ _ rfl _ _ _ _ rfl rfl D (by kernel_rfl) ?_; intro V2 B2 D3 hD _))
      obtain ⟨⟨d0, d1, d2, d3⟩, _⟩ := D3
      exact bodyPost_ret (v := .agg #[.int .i64 (r 0), .int .i64 (r 1), .int .i64 (r 2), .int .i64 (r 3)]) (by simp [results, Tryz.results8, go_sem, *]) rfl ⟨rfl, BB.trans (B2.mono (by omega))⟩
    · have hf : sfil s d = s 3 := if_neg h0
      have t0 : (d == 0) = false := by simp [h0]
      rw [hf] at cg
      have CG := Lib.hid cg
      clear cl cw cg hs hm hrr hf h0 h4 hr0 hd hl R hn
      go_enter Tryz.func8, Tryz.ntmps8
      go_wp2_with (first
        | ((with_reducible refine sloadL smpT S0 ?_ ?_); focus rfl)
        | (go_at_call 19; (with_reducible refine (CS.out _ J1).mono ?_); rintro _ V1 ⟨rfl, B⟩; (replace BB := bon BB B; replace a0 := cell_below B a0; replace S0 := smp_below B S0; replace J1 := RdI.on J1 B); replace D := D.on B; clear B)
        | (go_at_call 22; (with_reducible refine (CW.out _).mono ?_); rintro _ _ ⟨rfl, rfl⟩)
        | (go_at_call 28; (with_reducible refine (CL.out _).mono ?_); rintro _ V1 ⟨rfl, B⟩; (replace BB := bon BB B; replace a0 := cell_below B a0; replace S0 := smp_below B S0; replace J1 := RdI.on J1 B); replace D := D.on B; clear B)
        | (go_at_call 6; (with_reducible refine (CG.out _ J1).mono ?_); rintro _ V1 ⟨rfl, B⟩; (replace BB := bon BB B; replace a0 := cell_below B a0; replace S0 := smp_below B S0; replace J1 := RdI.on J1 B); replace D := D.on B; clear B)
        | ((with_reducible refine storeL0 ?_); refine wpList_vset rfl _ _ _ rfl _ _ _ _ rfl rfl D (by kernel_rfl) ?_; intro V2 B2 D3 hD _))
      obtain ⟨⟨d0, d1, d2, d3⟩, _⟩ := D3
      exact bodyPost_ret (v := .agg #[.int .i64 (r 0), .int .i64 (r 1), .int .i64 (r 2), .int .i64 (r 3)]) (by simp [results, Tryz.results8, go_sem, *]) rfl ⟨rfl, BB.trans (B2.mono (by omega))⟩
  · have hs : smv ts s u v l = fun i => lerpv (slv ts s u v (mn (d / 65536) ((n : Int) - 1)) (sfil s d) i) (slv ts s u v (mn (d / 65536 + 1) ((n : Int) - 1)) (sfil s d) i) (d % 65536) := by funext i; unfold smv; rw [if_neg h4, hd, hl]
    rw [hs]
    have t4 : (s 4 == 1) = false := by simp [h4]
    have cw := fun W => rsplit_q d W (by omega) (by omega)
    have cg := fun W R => rslv_b A n c ts s u v (mn (d / 65536) ((n : Int) - 1)) (sfil s d) W R hn
    have ch := fun W R => rslv_b A n c ts s u v (mn (d / 65536 + 1) ((n : Int) - 1)) (sfil s d) W R hn
    have g1 : IntKind.i64.wrap (d / 65536 + 1) = d / 65536 + 1 := IntWalk.i64_in _ (by omega)
    unfold GivesV at cg ch ⊢
    obtain ⟨m, hm⟩ : ∃ m, d / 65536 = m := ⟨_, rfl⟩
    rw [hm] at cw g1
    simp only [hm] at cg ch ⊢
    obtain ⟨p, hp⟩ : ∃ p, mn m ((n : Int) - 1) = p := ⟨_, rfl⟩
    obtain ⟨p', hp'⟩ : ∃ p, mn (m + 1) ((n : Int) - 1) = p := ⟨_, rfl⟩
    obtain ⟨y, hy⟩ : ∃ y, d % 65536 = y := ⟨_, rfl⟩
    rw [hy] at cw
    simp only [hp] at cg ⊢
    simp only [hp'] at ch ⊢
    simp only [hy]
    obtain ⟨r, hrr⟩ : ∃ r, slv ts s u v p (sfil s d) = r := ⟨_, rfl⟩
    obtain ⟨r', hrr'⟩ : ∃ r, slv ts s u v p' (sfil s d) = r := ⟨_, rfl⟩
    simp only [hrr] at cg ⊢
    simp only [hrr'] at ch ⊢
    have CW := Lib.hid cw
    have CE := Lib.hid (fun W => rlerp4 (r 0) (r 1) (r 2) (r 3) (r' 0) (r' 1) (r' 2) (r' 3) y W)
    by_cases h0 : d = 0
    · have hf : sfil s d = s 2 := if_pos h0
      have t0 : (d == 0) = true := by simp [h0]
      rw [hf] at cg ch
      have CG := Lib.hid cg
      have CH := Lib.hid ch
      clear cl cw cg ch hs hm hy hrr hrr' hf h0 h4 hr0 hd hl R hn
      go_enter Tryz.func8, Tryz.ntmps8
      go_wp2_with (first
        | ((with_reducible refine sloadL smpT S0 ?_ ?_); focus rfl)
        | (go_at_call 19; (with_reducible refine (CS.out _ J1).mono ?_); rintro _ V1 ⟨rfl, B⟩; (replace BB := bon BB B; replace a0 := cell_below B a0; replace S0 := smp_below B S0; replace J1 := RdI.on J1 B); replace D := D.on B; clear B)
        | (go_at_call 22; (with_reducible refine (CW.out _).mono ?_); rintro _ _ ⟨rfl, rfl⟩)
        | (go_at_call 28; (with_reducible refine (CL.out _).mono ?_); rintro _ V1 ⟨rfl, B⟩; (replace BB := bon BB B; replace a0 := cell_below B a0; replace S0 := smp_below B S0; replace J1 := RdI.on J1 B); replace D := D.on B; clear B))
      have k_a0 := cell_regrown a0
      have k_S0 := smp_regrown S0
      refine wp_region_tailK (n := 20) (by kernel_rfl) (by kernel_rfl) ?_
      simp only [List.take_succ_cons, List.take_zero, List.drop_succ_cons, List.drop_zero]
      repeat (first | (go_big_quiet_want; refine quiet_sload _ _ rfl smpT (fun W hW => smp_class S0 hW) rfl ?_; go_simp; go_big_quiet_on) | (go_big_quiet_want; refine quiet_bload _ _ rfl bordT (fun W hW => smp_class S0 hW) rfl ?_; go_simp; go_big_quiet_on) | go_big_quiet_step ((first | (go_at_call 6; with_reducible exact Calls.regrown_of (CG.out _ (J1.on (below_regrown _ _ _)))) | (go_at_call 6; with_reducible exact Calls.regrown_of (CH.out _ (J1.on (below_regrown _ _ _)))) | (go_at_call 24; with_reducible exact Calls.regrown_of (CE.out _)))) | quiet_step ((first | (go_at_call 6; with_reducible exact Calls.regrown_of (CG.out _ (J1.on (below_regrown _ _ _)))) | (go_at_call 6; with_reducible exact Calls.regrown_of (CH.out _ (J1.on (below_regrown _ _ _)))) | (go_at_call 24; with_reducible exact Calls.regrown_of (CE.out _)))))
      refine wpQuiet_nil ?_
      intro W hw'
      have B := below_regrown' hw'
      clear hw' k_a0 k_S0
      replace BB := bon BB B
      replace a0 := cell_below B a0
      replace S0 := smp_below B S0
      replace J1 := RdI.on J1 B
      replace D := D.on B
      clear B
      go_wp2_with (first
        | ((with_reducible refine sloadL smpT S0 ?_ ?_); focus rfl)
        | (go_at_call 6; (with_reducible refine (CG.out _ J1).mono ?_); rintro _ V1 ⟨rfl, B⟩; (replace BB := bon BB B; replace a0 := cell_below B a0; replace S0 := smp_below B S0; replace J1 := RdI.on J1 B); replace D := D.on B; clear B)
        | (go_at_call 6; (with_reducible refine (CH.out _ J1).mono ?_); rintro _ V1 ⟨rfl, B⟩; (replace BB := bon BB B; replace a0 := cell_below B a0; replace S0 := smp_below B S0; replace J1 := RdI.on J1 B); replace D := D.on B; clear B)
        | (go_at_call 24; (with_reducible refine (CE.out _).mono ?_); rintro _ V1 ⟨rfl, B⟩; (replace BB := bon BB B; replace a0 := cell_below B a0; replace S0 := smp_below B S0; replace J1 := RdI.on J1 B); replace D := D.on B; clear B)
        | ((with_reducible refine storeL0 ?_); refine wpList_vset rfl _ _ _ rfl _ _ _ _ rfl rfl D (by kernel_rfl) ?_; intro V2 B2 D3 hD _))
      obtain ⟨⟨d0, d1, d2, d3⟩, _⟩ := D3
      exact bodyPost_ret (v := .agg #[.int .i64 (lerpv (r 0) (r' 0) y), .int .i64 (lerpv (r 1) (r' 1) y), .int .i64 (lerpv (r 2) (r' 2) y), .int .i64 (lerpv (r 3) (r' 3) y)]) (by simp [results, Tryz.results8, go_sem, *]) rfl ⟨rfl, BB.trans (B2.mono (by omega))⟩
    · have hf : sfil s d = s 3 := if_neg h0
      have t0 : (d == 0) = false := by simp [h0]
      rw [hf] at cg ch
      have CG := Lib.hid cg
      have CH := Lib.hid ch
      clear cl cw cg ch hs hm hy hrr hrr' hf h0 h4 hr0 hd hl R hn
      go_enter Tryz.func8, Tryz.ntmps8
      go_wp2_with (first
        | ((with_reducible refine sloadL smpT S0 ?_ ?_); focus rfl)
        | (go_at_call 19; (with_reducible refine (CS.out _ J1).mono ?_); rintro _ V1 ⟨rfl, B⟩; (replace BB := bon BB B; replace a0 := cell_below B a0; replace S0 := smp_below B S0; replace J1 := RdI.on J1 B); replace D := D.on B; clear B)
        | (go_at_call 22; (with_reducible refine (CW.out _).mono ?_); rintro _ _ ⟨rfl, rfl⟩)
        | (go_at_call 28; (with_reducible refine (CL.out _).mono ?_); rintro _ V1 ⟨rfl, B⟩; (replace BB := bon BB B; replace a0 := cell_below B a0; replace S0 := smp_below B S0; replace J1 := RdI.on J1 B); replace D := D.on B; clear B))
      have k_a0 := cell_regrown a0
      have k_S0 := smp_regrown S0
      refine wp_region_tailK (n := 20) (by kernel_rfl) (by kernel_rfl) ?_
      simp only [List.take_succ_cons, List.take_zero, List.drop_succ_cons, List.drop_zero]
      repeat (first | (go_big_quiet_want; refine quiet_sload _ _ rfl smpT (fun W hW => smp_class S0 hW) rfl ?_; go_simp; go_big_quiet_on) | (go_big_quiet_want; refine quiet_bload _ _ rfl bordT (fun W hW => smp_class S0 hW) rfl ?_; go_simp; go_big_quiet_on) | go_big_quiet_step ((first | (go_at_call 6; with_reducible exact Calls.regrown_of (CG.out _ (J1.on (below_regrown _ _ _)))) | (go_at_call 6; with_reducible exact Calls.regrown_of (CH.out _ (J1.on (below_regrown _ _ _)))) | (go_at_call 24; with_reducible exact Calls.regrown_of (CE.out _)))) | quiet_step ((first | (go_at_call 6; with_reducible exact Calls.regrown_of (CG.out _ (J1.on (below_regrown _ _ _)))) | (go_at_call 6; with_reducible exact Calls.regrown_of (CH.out _ (J1.on (below_regrown _ _ _)))) | (go_at_call 24; with_reducible exact Calls.regrown_of (CE.out _)))))
      refine wpQuiet_nil ?_
      intro W hw'
      have B := below_regrown' hw'
      clear hw' k_a0 k_S0
      replace BB := bon BB B
      replace a0 := cell_below B a0
      replace S0 := smp_below B S0
      replace J1 := RdI.on J1 B
      replace D := D.on B
      clear B
      go_wp2_with (first
        | ((with_reducible refine sloadL smpT S0 ?_ ?_); focus rfl)
        | (go_at_call 6; (with_reducible refine (CG.out _ J1).mono ?_); rintro _ V1 ⟨rfl, B⟩; (replace BB := bon BB B; replace a0 := cell_below B a0; replace S0 := smp_below B S0; replace J1 := RdI.on J1 B); replace D := D.on B; clear B)
        | (go_at_call 6; (with_reducible refine (CH.out _ J1).mono ?_); rintro _ V1 ⟨rfl, B⟩; (replace BB := bon BB B; replace a0 := cell_below B a0; replace S0 := smp_below B S0; replace J1 := RdI.on J1 B); replace D := D.on B; clear B)
        | (go_at_call 24; (with_reducible refine (CE.out _).mono ?_); rintro _ V1 ⟨rfl, B⟩; (replace BB := bon BB B; replace a0 := cell_below B a0; replace S0 := smp_below B S0; replace J1 := RdI.on J1 B); replace D := D.on B; clear B)
        | ((with_reducible refine storeL0 ?_); refine wpList_vset rfl _ _ _ rfl _ _ _ _ rfl rfl D (by kernel_rfl) ?_; intro V2 B2 D3 hD _))
      obtain ⟨⟨d0, d1, d2, d3⟩, _⟩ := D3
      exact bodyPost_ret (v := .agg #[.int .i64 (lerpv (r 0) (r' 0) y), .int .i64 (lerpv (r 1) (r' 1) y), .int .i64 (lerpv (r 2) (r' 2) y), .int .i64 (lerpv (r 3) (r' 3) y)]) (by simp [results, Tryz.results8, go_sem, *]) rfl ⟨rfl, BB.trans (B2.mono (by omega))⟩

set_option maxRecDepth 100000 in
set_option maxHeartbeats 4000000 in
theorem texel_walk (A : Option Addr) (n c : Nat) (ts : List Tx) (s : Nat → Int) (u v k l : Int) (w : World) (R : RdI w w.heap.size A n ts) (hn : n ≤ 9223372036854775807) :
    Calls Tryz.prog 4 #[.agg #[.slice A n c], .agg (smps s), .agg #[.int .i64 u, .int .i64 v, .int .i64 k, .int .i64 l]] w fun e w' => e = .returned (.bool true) ∧ Below w.heap.size w w' := by
  obtain ⟨B0, a0, S0⟩ := args_ts w A n c s 24 30
  obtain ⟨p0, p1, p2, p3, B1⟩ := box4 ((w.alloc (.cells #[.slice A n c] 24)).alloc (.cells (smps s) 30)) (.int .i64 u) (.int .i64 v) (.int .i64 k) (.int .i64 l) 32
  have z2 : ((w.alloc (.cells #[.slice A n c] 24)).alloc (.cells (smps s) 30)).heap.size = w.heap.size + 2 := by simp
  rw [z2] at p0 p1 p2 p3
  replace a0 := cell_below B1 a0
  replace S0 := smp_below B1 S0
  have BB := bon B0 B1
  have J1 := R.on BB
  have CV := Lib.hid (fun W => sval_b s W)
  have CW := Lib.hid (fun W => rsval_b s W)
  obtain ⟨z, hz⟩ : ∃ z, decide (SV s) = z := ⟨_, rfl⟩
  rw [hz] at CV CW
  have hzz : (z == z) = true := by simp
  have C1 := Lib.hid (fun W R => stexel_b A n c ts s u v k W R hn)
  have C2 := Lib.hid (fun W R => rstexel_b A n c ts s u v k W R hn)
  have C3 := Lib.hid (fun W R => stexel_b A n c ts s u v 0 W R hn)
  have C4 := Lib.hid (fun W R => rstexel_b A n c ts s u v 0 W R hn)
  have CE := Lib.hid (fun W => sexample_b W)
  unfold GivesV at C1 C2 C3 C4
  obtain ⟨r, hr⟩ : ∃ r, stx ts s u v k = r := ⟨_, rfl⟩
  obtain ⟨r', hr'⟩ : ∃ r, stx ts s u v 0 = r := ⟨_, rfl⟩
  rw [hr] at C1 C2
  rw [hr'] at C3 C4
  clear B0 B1 z2 hz hr hr' R hn
  go_enter Tryz.func4, Tryz.ntmps4
  go_wp2
  have k_a0 := cell_regrown a0
  have k_S0 := smp_regrown S0
  have k_p0 := cell_regrown p0
  have k_p1 := cell_regrown p1
  have k_p2 := cell_regrown p2
  have k_p3 := cell_regrown p3
  refine wp_region_quiet_below (by kernel_rfl) (by kernel_rfl) ?_
  repeat (first | (go_big_quiet_want; refine quiet_sload _ _ rfl smpT (fun W hW => smp_class S0 hW) rfl ?_; go_simp; go_big_quiet_on) | (go_big_quiet_want; refine quiet_bload _ _ rfl bordT (fun W hW => smp_class S0 hW) rfl ?_; go_simp; go_big_quiet_on) | go_big_quiet_step ((first | (go_at_call 10; with_reducible exact Calls.regrown_of (CV.out _)) | (go_at_call 11; with_reducible exact Calls.regrown_of (CW.out _)) | (go_at_call 12; with_reducible exact Calls.regrown_of (C1.out _ (J1.on (below_regrown _ _ _)))) | (go_at_call 13; with_reducible exact Calls.regrown_of (C2.out _ (J1.on (below_regrown _ _ _)))) | (go_at_call 12; with_reducible exact Calls.regrown_of (C3.out _ (J1.on (below_regrown _ _ _)))) | (go_at_call 13; with_reducible exact Calls.regrown_of (C4.out _ (J1.on (below_regrown _ _ _)))) | (go_at_call 9; with_reducible exact Calls.regrown_of (CE.out _)))) | quiet_step ((first | (go_at_call 10; with_reducible exact Calls.regrown_of (CV.out _)) | (go_at_call 11; with_reducible exact Calls.regrown_of (CW.out _)) | (go_at_call 12; with_reducible exact Calls.regrown_of (C1.out _ (J1.on (below_regrown _ _ _)))) | (go_at_call 13; with_reducible exact Calls.regrown_of (C2.out _ (J1.on (below_regrown _ _ _)))) | (go_at_call 12; with_reducible exact Calls.regrown_of (C3.out _ (J1.on (below_regrown _ _ _)))) | (go_at_call 13; with_reducible exact Calls.regrown_of (C4.out _ (J1.on (below_regrown _ _ _)))) | (go_at_call 9; with_reducible exact Calls.regrown_of (CE.out _)))))
  refine wpQuiet_nil ?_
  intro W hw'
  have B := below_regrown' hw'
  clear hw' k_a0 k_S0 k_p0 k_p1 k_p2 k_p3
  replace BB := bon BB B
  replace a0 := cell_below B a0
  replace S0 := smp_below B S0
  replace p0 := cell_below B p0
  replace p1 := cell_below B p1
  replace p2 := cell_below B p2
  replace p3 := cell_below B p3
  replace J1 := RdI.on J1 B
  go_wp2
  go_ret
  exact ⟨rfl, BB⟩

set_option maxRecDepth 100000 in
set_option maxHeartbeats 4000000 in
theorem filters_walk (A : Option Addr) (n c : Nat) (ts : List Tx) (s : Nat → Int) (u v k l : Int) (w : World) (R : RdI w w.heap.size A n ts) (hn : n ≤ 9223372036854775807) :
    Calls Tryz.prog 3 #[.agg #[.slice A n c], .agg (smps s), .agg #[.int .i64 u, .int .i64 v, .int .i64 k, .int .i64 l]] w fun e w' => e = .returned (.bool true) ∧ Below w.heap.size w w' := by
  obtain ⟨B0, a0, S0⟩ := args_ts w A n c s 24 30
  obtain ⟨p0, p1, p2, p3, B1⟩ := box4 ((w.alloc (.cells #[.slice A n c] 24)).alloc (.cells (smps s) 30)) (.int .i64 u) (.int .i64 v) (.int .i64 k) (.int .i64 l) 32
  have z2 : ((w.alloc (.cells #[.slice A n c] 24)).alloc (.cells (smps s) 30)).heap.size = w.heap.size + 2 := by simp
  rw [z2] at p0 p1 p2 p3
  replace a0 := cell_below B1 a0
  replace S0 := smp_below B1 S0
  have BB := bon B0 B1
  have J1 := R.on BB
  have C1 := Lib.hid (fun f W R => sslv_b A n c ts s u v k f W R hn)
  have C2 := Lib.hid (fun f W R => rslv_b A n c ts s u v k f W R hn)
  have C3 := Lib.hid (fun W R => ssmp_b A n c ts s u v l W R hn)
  have C4 := Lib.hid (fun W R => rsmp_b A n c ts s u v l W R hn)
  have CE := Lib.hid (fun W => sexample_b W)
  unfold GivesV at C1 C2 C3 C4
  obtain ⟨r, hr⟩ : ∃ r, slv ts s u v k = r := ⟨_, rfl⟩
  obtain ⟨r', hr'⟩ : ∃ r, smv ts s u v l = r := ⟨_, rfl⟩
  simp only [hr] at C1 C2
  rw [hr'] at C3 C4
  clear B0 B1 z2 hr hr' R hn
  go_enter Tryz.func3, Tryz.ntmps3
  go_wp2
  go_loopw [7] (fun i wr => ∃ j : Nat, j ≤ 4 ∧ i = .int .i64 j ∧ wr.cell? ⟨w.heap.size, 0, none⟩ = some (.slice A n c) ∧ (∀ i, i < 12 → wr.cell? ⟨w.heap.size + 1, i, none⟩ = some (.int .i64 (s i))) ∧ wr.cell? ⟨w.heap.size + 2, 0, none⟩ = some (.int .i64 u) ∧ wr.cell? ⟨w.heap.size + 2, 1, none⟩ = some (.int .i64 v) ∧ wr.cell? ⟨w.heap.size + 2, 2, none⟩ = some (.int .i64 k) ∧ wr.cell? ⟨w.heap.size + 2, 3, none⟩ = some (.int .i64 l) ∧ RdI wr wr.heap.size A n ts ∧ Below w.heap.size w wr) (fun i _ => 4 - (intOf i).toNat)
  case atStart => exact ⟨0, by omega, rfl, a0, S0, p0, p1, p2, p3, J1, BB⟩
  case round =>
    clear a0 S0 p0 p1 p2 p3 J1 BB
    obtain ⟨j, hj, rfl, a0, S0, p0, p1, p2, p3, J1, BB⟩ := hrel
    by_cases hj4 : j < 4
    · have hj3 : (j : Int) ≤ 3 := by omega
      have D1 := Lib.hid (C1.out (j : Int))
      have D2 := Lib.hid (C2.out (j : Int))
      go_wp2
      have k_a0 := cell_regrown a0
      have k_S0 := smp_regrown S0
      have k_p0 := cell_regrown p0
      have k_p1 := cell_regrown p1
      have k_p2 := cell_regrown p2
      have k_p3 := cell_regrown p3
      refine wp_region_quiet_below (by kernel_rfl) (by kernel_rfl) ?_
      repeat (first | (go_big_quiet_want; refine quiet_sload _ _ rfl smpT (fun W hW => smp_class S0 hW) rfl ?_; go_simp; go_big_quiet_on) | (go_big_quiet_want; refine quiet_bload _ _ rfl bordT (fun W hW => smp_class S0 hW) rfl ?_; go_simp; go_big_quiet_on) | go_big_quiet_step ((first | (go_at_call 5; with_reducible exact Calls.regrown_of (D1.out _ (J1.on (below_regrown _ _ _)))) | (go_at_call 6; with_reducible exact Calls.regrown_of (D2.out _ (J1.on (below_regrown _ _ _)))))) | quiet_step ((first | (go_at_call 5; with_reducible exact Calls.regrown_of (D1.out _ (J1.on (below_regrown _ _ _)))) | (go_at_call 6; with_reducible exact Calls.regrown_of (D2.out _ (J1.on (below_regrown _ _ _)))))))
      refine wpQuiet_nil ?_
      intro W hw'
      have B := below_regrown' hw'
      clear hw' k_a0 k_S0 k_p0 k_p1 k_p2 k_p3
      replace BB := bon BB B
      replace a0 := cell_below B a0
      replace S0 := smp_below B S0
      replace p0 := cell_below B p0
      replace p1 := cell_below B p1
      replace p2 := cell_below B p2
      replace p3 := cell_below B p3
      replace J1 := RdI.on J1 B
      go_wp2
      go_roundw
      case rel => exact ⟨j + 1, by omega, by go_num, a0, S0, p0, p1, p2, p3, J1, BB⟩
      case measure => simp [intOf]; omega
    · have hj3 : ¬ (j : Int) ≤ 3 := by omega
      go_wp2
      have k_a0 := cell_regrown a0
      have k_S0 := smp_regrown S0
      have k_p0 := cell_regrown p0
      have k_p1 := cell_regrown p1
      have k_p2 := cell_regrown p2
      have k_p3 := cell_regrown p3
      refine wp_region_quiet_below (by kernel_rfl) (by kernel_rfl) ?_
      repeat (first | (go_big_quiet_want; refine quiet_sload _ _ rfl smpT (fun W hW => smp_class S0 hW) rfl ?_; go_simp; go_big_quiet_on) | (go_big_quiet_want; refine quiet_bload _ _ rfl bordT (fun W hW => smp_class S0 hW) rfl ?_; go_simp; go_big_quiet_on) | go_big_quiet_step ((first | (go_at_call 7; with_reducible exact Calls.regrown_of (C3.out _ (J1.on (below_regrown _ _ _)))) | (go_at_call 8; with_reducible exact Calls.regrown_of (C4.out _ (J1.on (below_regrown _ _ _)))) | (go_at_call 9; with_reducible exact Calls.regrown_of (CE.out _)))) | quiet_step ((first | (go_at_call 7; with_reducible exact Calls.regrown_of (C3.out _ (J1.on (below_regrown _ _ _)))) | (go_at_call 8; with_reducible exact Calls.regrown_of (C4.out _ (J1.on (below_regrown _ _ _)))) | (go_at_call 9; with_reducible exact Calls.regrown_of (CE.out _)))))
      refine wpQuiet_nil ?_
      intro W hw'
      have B := below_regrown' hw'
      clear hw' k_a0 k_S0 k_p0 k_p1 k_p2 k_p3
      replace BB := bon BB B
      replace a0 := cell_below B a0
      replace S0 := smp_below B S0
      replace p0 := cell_below B p0
      replace p1 := cell_below B p1
      replace p2 := cell_below B p2
      replace p3 := cell_below B p3
      replace J1 := RdI.on J1 B
      go_wp2
      go_ret
      exact ⟨rfl, BB⟩

end Go.Proofs.YtoipmldbjciinaaGreat
