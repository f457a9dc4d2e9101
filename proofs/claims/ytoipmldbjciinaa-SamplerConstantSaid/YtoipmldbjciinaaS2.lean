/- canSample, colorAt, Texel, LevelOfDetail of package sampler. -/
import Derived.Test.YtoipmldbjciinaaS1
import Derived.Test.YtoipmldbjciinaaL2
import Derived.Test.YtoipmldbjciinaaL5
namespace Go.Proofs.Ytoipmldbjciinaa
open Go.RowKit Go.Sort
set_option linter.unusedVariables false

/-- What lies in the blocks of a texture and a sampler, handed over by value; of a vector behind them. -/
theorem args_ts (w : World) (A : Option Addr) (n c : Nat) (s : Nat → Int) (t u : TypeId) :
    Below w.heap.size w ((w.alloc (.cells #[.slice A n c] t)).alloc (.cells (smps s) u)) ∧ ((w.alloc (.cells #[.slice A n c] t)).alloc (.cells (smps s) u)).cell? ⟨w.heap.size, 0, none⟩ = some (.slice A n c) ∧
      (∀ i, i < 12 → ((w.alloc (.cells #[.slice A n c] t)).alloc (.cells (smps s) u)).cell? ⟨w.heap.size + 1, i, none⟩ = some (.int .i64 (s i))) := by
  obtain ⟨a0, B0⟩ := box1 w (.slice A n c) t
  have b1 := box_below (w.alloc (.cells #[.slice A n c] t)) (smps s) u
  have S0 := smp_box (w.alloc (.cells #[.slice A n c] t)) s u
  have z1 : (w.alloc (.cells #[.slice A n c] t)).heap.size = w.heap.size + 1 := by simp
  rw [z1] at S0
  exact ⟨bon B0 b1, cell_below b1 a0, S0⟩

theorem args_tsv (w : World) (A : Option Addr) (n c : Nat) (s : Nat → Int) (t u v : TypeId) :
    Below w.heap.size w (((w.alloc (.cells #[.slice A n c] t)).alloc (.cells (smps s) u)).alloc (.cells #[.int .i64 0, .int .i64 0, .int .i64 0, .int .i64 0] v)) ∧ (((w.alloc (.cells #[.slice A n c] t)).alloc (.cells (smps s) u)).alloc (.cells #[.int .i64 0, .int .i64 0, .int .i64 0, .int .i64 0] v)).cell? ⟨w.heap.size, 0, none⟩ = some (.slice A n c) ∧
      (∀ i, i < 12 → (((w.alloc (.cells #[.slice A n c] t)).alloc (.cells (smps s) u)).alloc (.cells #[.int .i64 0, .int .i64 0, .int .i64 0, .int .i64 0] v)).cell? ⟨w.heap.size + 1, i, none⟩ = some (.int .i64 (s i))) ∧
      VBox (((w.alloc (.cells #[.slice A n c] t)).alloc (.cells (smps s) u)).alloc (.cells #[.int .i64 0, .int .i64 0, .int .i64 0, .int .i64 0] v)) (w.heap.size + 2) 0 0 0 0 := by
  obtain ⟨B0, a0, S0⟩ := args_ts w A n c s t u
  have D := VBox.made ((w.alloc (.cells #[.slice A n c] t)).alloc (.cells (smps s) u)) 0 0 0 0 v
  have z1 : ((w.alloc (.cells #[.slice A n c] t)).alloc (.cells (smps s) u)).heap.size = w.heap.size + 2 := by simp
  have b1 := box_below ((w.alloc (.cells #[.slice A n c] t)).alloc (.cells (smps s) u)) #[.int .i64 0, .int .i64 0, .int .i64 0, .int .i64 0] v
  rw [z1] at D
  exact ⟨bon B0 b1, cell_below b1 a0, smp_below b1 S0, D⟩

set_option maxRecDepth 100000 in
theorem scan_b (A : Option Addr) (n c : Nat) (ts : List Tx) (s : Nat → Int) (k : Int) (w : World) (R : RdI w w.heap.size A n ts) (hn : n ≤ 9223372036854775807) :
    Calls Try.prog 36 #[.agg #[.slice A n c], .agg (smps s), .int .i64 k] w fun e w' => e = .returned (.bool (decide (can ts s k))) ∧ Below w.heap.size w w' := by
  obtain ⟨BB, a0, S0⟩ := args_ts w A n c s 41 27
  have J1 := R.on BB
  have hl := R.len
  have cs := fun W => sval_b s W
  unfold smps at cs
  have CT := Lib.hid (fun W R => tvalidx_b A n c ts W R hn)
  clear R hn
  by_cases h1 : 0 ≤ k
  rotate_left
  · rw [decide_eq_false (show ¬ can ts s k from fun q => h1 q.1.1)]
    clear cs CT J1 hl
    go_enter Try.func36, Try.ntmps36
    go_wp2
    go_ret
    exact ⟨rfl, BB⟩
  by_cases h2 : k < (n : Int)
  rotate_left
  · rw [decide_eq_false (show ¬ can ts s k from fun q => h2 (by rw [← hl]; exact q.1.2))]
    clear cs CT J1 hl
    go_enter Try.func36, Try.ntmps36
    go_wp2
    go_ret
    exact ⟨rfl, BB⟩
  by_cases h3 : SV s
  rotate_left
  · rw [decide_eq_false (show ¬ can ts s k from fun q => h3 q.2.1)]
    rw [decide_eq_false h3] at cs
    have CS := Lib.hid cs
    clear cs CT J1 hl h3
    go_enter Try.func36, Try.ntmps36
    go_wp2_with (go_at_call 15; (with_reducible refine (CS.out _).mono ?_); rintro _ _ ⟨rfl, B⟩; (replace BB := bon BB B; replace a0 := cell_below B a0; replace S0 := smp_below B S0))
    go_ret
    exact ⟨rfl, BB⟩
  rw [decide_eq_true h3] at cs
  have CS := Lib.hid cs
  obtain ⟨z, hz⟩ : ∃ z, tv ts = z := ⟨_, rfl⟩
  have e : decide (can ts s k) = z := by
    cases z
    · exact decide_eq_false (fun q => by rw [q.2.2] at hz; cases hz)
    · exact decide_eq_true ⟨⟨h1, by omega⟩, h3, hz⟩
  rw [hz] at CT
  rw [e]
  clear cs hl h3 hz e
  go_enter Try.func36, Try.ntmps36
  go_wp2_with (first
    | (go_at_call 15; (with_reducible refine (CS.out _).mono ?_); rintro _ _ ⟨rfl, B⟩; (replace BB := bon BB B; replace a0 := cell_below B a0; replace S0 := smp_below B S0; replace J1 := RdI.on J1 B))
    | (go_at_call 51; (with_reducible refine (CT.out _ J1).mono ?_); rintro _ _ ⟨rfl, B⟩; (replace BB := bon BB B; replace a0 := cell_below B a0; replace S0 := smp_below B S0; replace J1 := RdI.on J1 B)))
  go_ret
  exact ⟨rfl, BB⟩

set_option maxRecDepth 100000 in
set_option maxHeartbeats 2000000 in
theorem scol_b (A : Option Addr) (n c : Nat) (ts : List Tx) (s : Nat → Int) (x y : Int) (q : Nat) (w : World) (R : RdI w w.heap.size A n ts) (hq : q < n) (hq2 : q ≤ 9223372036854775807) :
    Calls Try.prog 38 #[.agg #[.slice A n c], .agg (smps s), .int .i64 x, .int .i64 y, .int .i64 q] w (GivesV w (col ts s x y q)) := by
  obtain ⟨BB, a0, S0, D⟩ := args_tsv w A n c s 41 27 25
  have J1 := R.on BB
  obtain ⟨b, off, t, rfl, _, TA, _, ht⟩ := J1.at_ hq
  obtain ⟨_, e1, e2, _⟩ := TA
  have hlv : lvl ts (q : Int) = t.m := by unfold lvl; rw [Int.toNat_natCast, List.getD, ht]; rfl
  have hc : col ts s x y (q : Int) = fun i => if idxv (s 0) x t.m.w < 0 ∨ idxv (s 1) y t.m.h < 0 then s (5 + i) else tgt ts (idxv (s 0) x t.m.w) (idxv (s 1) y t.m.h) q i := by funext i; unfold col; rw [hlv]
  rw [hc]
  have c1 := fun W => of_q (index_q (s 0) x t.m.w W)
  have c2 := fun W => of_q (index_q (s 1) y t.m.h W)
  obtain ⟨u, hu⟩ : ∃ u, idxv (s 0) x t.m.w = u := ⟨_, rfl⟩
  obtain ⟨v, hv⟩ : ∃ v, idxv (s 1) y t.m.h = v := ⟨_, rfl⟩
  rw [hu] at c1 ⊢
  rw [hv] at c2 ⊢
  have cg := fun W R => tget_b (some ⟨b, off, none⟩) n c ts u v q W R
  have C1 := Lib.hid c1
  have C2 := Lib.hid c2
  obtain ⟨g, hg⟩ : ∃ g, tgt ts u v (q : Int) = g := ⟨_, rfl⟩
  rw [hg]
  have hqn : (q : Int) < (n : Int) := by omega
  obtain ⟨r, hr⟩ : ∃ r : Nat → Int, (fun i => if u < 0 ∨ v < 0 then s (5 + i) else g i) = r := ⟨_, rfl⟩
  rw [hr]
  have HR1 : Hid ((u < 0 ∨ v < 0) → r 0 = s 5 ∧ r 1 = s 6 ∧ r 2 = s 7 ∧ r 3 = s 8) := Lib.hid (fun h => by rw [← hr]; exact ⟨if_pos h, if_pos h, if_pos h, if_pos h⟩)
  have HR2 : Hid (¬ (u < 0 ∨ v < 0) → r = g) := Lib.hid (fun h => by rw [← hr]; funext i; exact if_neg h)
  unfold GivesV at cg ⊢
  simp only [hg] at cg
  have CG := Lib.hid cg
  clear c1 c2 cg hu hv hg hc hlv ht R hr
  go_enter Try.func38, Try.ntmps38
  go_wp2
  have k_a0 := cell_regrown a0
  have k_S0 := smp_regrown S0
  have k_e1 := cell_regrown e1
  have k_e2 := cell_regrown e2
  refine wp_region_quiet_below (by kernel_rfl) (by kernel_rfl) ?_
  repeat (first | (go_big_quiet_want; refine quiet_sload _ _ rfl smpT (fun W hW => smp_class S0 hW) rfl ?_; go_simp; go_big_quiet_on) | (go_big_quiet_want; refine quiet_bload _ _ rfl bordT (fun W hW => smp_class S0 hW) rfl ?_; go_simp; go_big_quiet_on) | go_big_quiet_step ((first | (go_at_call 52; with_reducible exact Calls.regrown_of (C1.out _)))) | quiet_step ((first | (go_at_call 52; with_reducible exact Calls.regrown_of (C1.out _)))))
  refine wpQuiet_nil ?_
  intro W hw'
  have B := below_regrown' hw'
  clear hw' k_a0 k_S0 k_e1 k_e2
  replace BB := bon BB B
  replace a0 := cell_below B a0
  replace S0 := smp_below B S0
  replace e1 := cell_below B e1
  replace e2 := cell_below B e2
  replace J1 := RdI.on J1 B
  replace D := D.on B
  clear B
  go_wp2
  have k_a0 := cell_regrown a0
  have k_S0 := smp_regrown S0
  have k_e1 := cell_regrown e1
  have k_e2 := cell_regrown e2
  refine wp_region_quiet_below (by kernel_rfl) (by kernel_rfl) ?_
  repeat (first | (go_big_quiet_want; refine quiet_sload _ _ rfl smpT (fun W hW => smp_class S0 hW) rfl ?_; go_simp; go_big_quiet_on) | (go_big_quiet_want; refine quiet_bload _ _ rfl bordT (fun W hW => smp_class S0 hW) rfl ?_; go_simp; go_big_quiet_on) | go_big_quiet_step ((first | (go_at_call 52; with_reducible exact Calls.regrown_of (C2.out _)))) | quiet_step ((first | (go_at_call 52; with_reducible exact Calls.regrown_of (C2.out _)))))
  refine wpQuiet_nil ?_
  intro W hw'
  have B := below_regrown' hw'
  clear hw' k_a0 k_S0 k_e1 k_e2
  replace BB := bon BB B
  replace a0 := cell_below B a0
  replace S0 := smp_below B S0
  replace e1 := cell_below B e1
  replace e2 := cell_below B e2
  replace J1 := RdI.on J1 B
  replace D := D.on B
  clear B
  by_cases hu : u < 0
  · have HE := Lib.hid (HR1.out (.inl hu))
    clear C1 C2 CG HR1 HR2
    go_wp2_with (first
      | (refine wpList_bload rfl _ _ rfl bordT S0 rfl ?_)
      | (refine wpList_vset rfl _ _ _ rfl _ _ _ _ rfl rfl D (by kernel_rfl) ?_; intro V2 B2 D3 hD _))
    obtain ⟨⟨d0, d1, d2, d3⟩, _⟩ := D3
    exact bodyPost_ret (v := .agg #[.int .i64 (s 5), .int .i64 (s 6), .int .i64 (s 7), .int .i64 (s 8)]) (by simp [results, Try.results38, go_sem, *]) rfl ⟨by obtain ⟨e0, e1, e2, e3⟩ := HE.out; rw [e0, e1, e2, e3], BB.trans (B2.mono (by omega))⟩
  · by_cases hv : v < 0
    · have HE := Lib.hid (HR1.out (.inr hv))
      clear C1 C2 CG HR1 HR2
      go_wp2_with (first
        | (refine wpList_bload rfl _ _ rfl bordT S0 rfl ?_)
        | (refine wpList_vset rfl _ _ _ rfl _ _ _ _ rfl rfl D (by kernel_rfl) ?_; intro V2 B2 D3 hD _))
      obtain ⟨⟨d0, d1, d2, d3⟩, _⟩ := D3
      exact bodyPost_ret (v := .agg #[.int .i64 (s 5), .int .i64 (s 6), .int .i64 (s 7), .int .i64 (s 8)]) (by simp [results, Try.results38, go_sem, *]) rfl ⟨by obtain ⟨e0, e1, e2, e3⟩ := HE.out; rw [e0, e1, e2, e3], BB.trans (B2.mono (by omega))⟩
    · have hn0 : ¬ (u < 0 ∨ v < 0) := by omega
      obtain rfl := HR2.out hn0
      clear C1 C2 hn0 HR1 HR2
      go_wp2_with (first
        | (go_at_call 53; (with_reducible refine (CG.out _ J1).mono ?_); rintro _ V1 ⟨rfl, B⟩; replace D := D.on B; replace BB := bon BB B; clear B J1)
        | (refine wpList_vset rfl _ _ _ rfl _ _ _ _ rfl rfl D (by kernel_rfl) ?_; intro V2 B2 D3 hD _))
      obtain ⟨⟨d0, d1, d2, d3⟩, _⟩ := D3
      exact bodyPost_ret (v := .agg #[.int .i64 (r 0), .int .i64 (r 1), .int .i64 (r 2), .int .i64 (r 3)]) (by simp [results, Try.results38, go_sem, *]) rfl ⟨rfl, BB.trans (B2.mono (by omega))⟩

set_option maxRecDepth 100000 in
theorem stexel_b (A : Option Addr) (n c : Nat) (ts : List Tx) (s : Nat → Int) (x y k : Int) (w : World) (R : RdI w w.heap.size A n ts) (hn : n ≤ 9223372036854775807) :
    Calls Try.prog 18 #[.agg #[.slice A n c], .agg (smps s), .int .i64 x, .int .i64 y, .int .i64 k] w (GivesV w (stx ts s x y k)) := by
  obtain ⟨BB, a0, S0, D⟩ := args_tsv w A n c s 41 27 25
  have J1 := R.on BB
  have hl := R.len
  have cs := fun W R => scan_b A n c ts s k W R hn
  by_cases hc : can ts s k
  · have he : stx ts s x y k = col ts s x y k := by funext i; unfold stx; rw [if_pos hc]
    obtain ⟨q, rfl⟩ : ∃ q : Nat, k = q := ⟨k.toNat, by have := hc.1.1; omega⟩
    have hq : q < n := by have := hc.1.2; omega
    have cg := fun W R => scol_b A n c ts s x y q W R hq (by omega)
    rw [he]
    rw [decide_eq_true hc] at cs
    unfold GivesV at cg ⊢
    obtain ⟨g, hg⟩ : ∃ g, col ts s x y (q : Int) = g := ⟨_, rfl⟩
    simp only [hg] at cg ⊢
    have CS := Lib.hid cs
    have CG := Lib.hid cg
    clear cs cg hc he hg R hl hn hq
    go_enter Try.func18, Try.ntmps18
    go_wp2_with (first
      | (refine wpList_sload rfl _ _ rfl smpT S0 rfl ?_)
      | (go_at_call 36; (with_reducible refine (CS.out _ J1).mono ?_); rintro _ V1 ⟨rfl, B⟩; (replace BB := bon BB B; replace a0 := cell_below B a0; replace S0 := smp_below B S0; replace J1 := RdI.on J1 B); replace D := D.on B; clear B)
      | (go_at_call 38; (with_reducible refine (CG.out _ J1).mono ?_); rintro _ V1 ⟨rfl, B⟩; replace D := D.on B; replace BB := bon BB B; clear B J1 a0 S0)
      | (refine wpList_vset rfl _ _ _ rfl _ _ _ _ rfl rfl D (by kernel_rfl) ?_; intro V2 B2 D3 hD _))
    obtain ⟨⟨d0, d1, d2, d3⟩, _⟩ := D3
    exact bodyPost_ret (v := .agg #[.int .i64 (g 0), .int .i64 (g 1), .int .i64 (g 2), .int .i64 (g 3)]) (by simp [results, Try.results18, go_sem, *]) rfl ⟨rfl, BB.trans (B2.mono (by omega))⟩
  · have he : stx ts s x y k = fun _ => 0 := by funext i; unfold stx; rw [if_neg hc]
    rw [he]
    rw [decide_eq_false hc] at cs
    unfold GivesV
    have CS := Lib.hid cs
    clear cs hc he R hl hn
    go_enter Try.func18, Try.ntmps18
    go_wp2_with (first
      | (refine wpList_sload rfl _ _ rfl smpT S0 rfl ?_)
      | (go_at_call 36; (with_reducible refine (CS.out _ J1).mono ?_); rintro _ V1 ⟨rfl, B⟩; (replace BB := bon BB B; replace a0 := cell_below B a0; replace S0 := smp_below B S0; replace J1 := RdI.on J1 B); replace D := D.on B; clear B)
      | (refine wpList_vset rfl _ _ _ rfl _ _ _ _ rfl rfl D (by kernel_rfl) ?_; intro V2 B2 D3 hD _))
    obtain ⟨⟨d0, d1, d2, d3⟩, _⟩ := D3
    exact bodyPost_ret (v := .agg #[.int .i64 0, .int .i64 0, .int .i64 0, .int .i64 0]) (by simp [results, Try.results18, go_sem, *]) rfl ⟨rfl, BB.trans (B2.mono (by omega))⟩

theorem slod_b (s : Nat → Int) (l : Int) (w : World) : Calls Try.prog 8 #[.agg (smps s), .int .i64 l] w fun e w' => e = .returned (.int .i64 (lodv s l)) ∧ Below w.heap.size w w' := by
  have BB := box_below w (smps s) 27
  have S0 := smp_box w s 27
  have cs := fun W => sval_b s W
  unfold lodv
  by_cases h : SV s
  · rw [if_pos h]
    rw [decide_eq_true h] at cs
    have CS := Lib.hid cs
    clear cs h
    go_enter Try.func8, Try.ntmps8
    go_wp2_with (first
      | (refine wpList_sload rfl _ _ rfl smpT S0 rfl ?_)
      | (go_at_call 15; (with_reducible refine (CS.out _).mono ?_); rintro _ V1 ⟨rfl, B⟩; (replace BB := bon BB B; replace S0 := smp_below B S0); clear B))
    have k_S0 := smp_regrown S0
    refine wp_region_quiet_below (by kernel_rfl) (by kernel_rfl) ?_
    repeat (first | (go_big_quiet_want; refine quiet_sload _ _ rfl smpT (fun W hW => smp_class S0 hW) rfl ?_; go_simp; go_big_quiet_on) | (go_big_quiet_want; refine quiet_bload _ _ rfl bordT (fun W hW => smp_class S0 hW) rfl ?_; go_simp; go_big_quiet_on) | go_big_quiet_step ((first | (go_at_call 20; exact Calls.regrown_of (add_b _ _ _)) | (go_at_call 19; exact Calls.regrown_of (clamp_b _ _ _ _)))) | quiet_step ((first | (go_at_call 20; exact Calls.regrown_of (add_b _ _ _)) | (go_at_call 19; exact Calls.regrown_of (clamp_b _ _ _ _)))))
    refine wpQuiet_nil ?_
    intro W hw'
    have B := below_regrown' hw'
    clear hw' k_S0
    replace BB := bon BB B
    replace S0 := smp_below B S0
    go_wp2
    go_ret
    exact ⟨rfl, BB⟩
  · rw [if_neg h]
    rw [decide_eq_false h] at cs
    have CS := Lib.hid cs
    clear cs h
    go_enter Try.func8, Try.ntmps8
    go_wp2_with (first
      | (refine wpList_sload rfl _ _ rfl smpT S0 rfl ?_)
      | (go_at_call 15; (with_reducible refine (CS.out _).mono ?_); rintro _ V1 ⟨rfl, B⟩; (replace BB := bon BB B; replace S0 := smp_below B S0); clear B))
    go_ret
    exact ⟨rfl, BB⟩

end Go.Proofs.Ytoipmldbjciinaa
