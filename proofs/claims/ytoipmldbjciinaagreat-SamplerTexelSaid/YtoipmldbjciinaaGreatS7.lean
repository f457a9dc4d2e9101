/- The reference of samplers: level, split, texel, Texel, LevelOfDetail, SampleLevel, Sample. -/
import Derived.Test.YtoipmldbjciinaaGreatS1r
import Derived.Test.YtoipmldbjciinaaGreatS4
import Derived.Test.YtoipmldbjciinaaGreatL11
namespace Go.Proofs.YtoipmldbjciinaaGreat
open Go.RowKit Go.Sort Go.ChangeShapes Go.WideShapes
set_option linter.unusedVariables false

theorem rsplit_q (a : Int) (w : World) (h1 : -1099511627776 ≤ a) (h2 : a ≤ 1099511627776) : Calls Tryz.prog 22 #[.int .i64 a] w fun e w' => e = .returned (.tuple #[.int .i64 (a / 65536), .int .i64 (a % 65536)]) ∧ w = w' := by
  obtain ⟨k, hk⟩ : ∃ k, a.tdiv 65536 = k := ⟨_, rfl⟩
  have hd := td_if a 65536
  rw [hk] at hd
  have g0 : IntKind.i64.wrap k = k := IntWalk.i64_in _ (by split at hd <;> omega)
  have g1 : IntKind.i64.wrap (k * 65536) = k * 65536 := IntWalk.i64_in _ (by split at hd <;> omega)
  have g2 : IntKind.i64.wrap (k - 1) = k - 1 := IntWalk.i64_in _ (by split at hd <;> omega)
  have g3 : IntKind.i64.wrap ((k - 1) * 65536) = (k - 1) * 65536 := IntWalk.i64_in _ (by split at hd <;> omega)
  have g4 : IntKind.i64.wrap (a - k * 65536) = a - k * 65536 := IntWalk.i64_in _ (by split at hd <;> omega)
  have g5 : IntKind.i64.wrap (a - (k - 1) * 65536) = a - (k - 1) * 65536 := IntWalk.i64_in _ (by split at hd <;> omega)
  have hc : (¬ a < k * 65536 ∧ a / 65536 = k ∧ a % 65536 = a - k * 65536) ∨ (a < k * 65536 ∧ a / 65536 = k - 1 ∧ a % 65536 = a - (k - 1) * 65536) := by split at hd <;> omega
  clear hd h1 h2
  rcases hc with ⟨c1, c2, c3⟩ | ⟨c1, c2, c3⟩
  all_goals
    rw [c2, c3]
    clear c2 c3
    go_enter Tryz.func22, Tryz.ntmps22
    go_wp2
    go_ret2
    exact ⟨rfl, rfl⟩

set_option maxRecDepth 100000 in
theorem rslevel_b (A : Option Addr) (n c : Nat) (ts : List Tx) (s : Nat → Int) (k : Int) (w : World) (R : RdI w w.heap.size A n ts) (hn : n ≤ 9223372036854775807) :
    Calls Tryz.prog 19 #[.agg #[.slice A n c], .agg (smps s), .int .i64 k] w fun e w' => e = .returned (.bool (decide (can ts s k))) ∧ Below w.heap.size w w' := by
  obtain ⟨BB, a0, S0⟩ := args_ts w A n c s 24 30
  have J1 := R.on BB
  have hl := R.len
  have cs := fun W => rsval_b s W
  unfold smps at cs
  have CT := Lib.hid (fun W R => rtvalidx_b A n c ts W R hn)
  obtain ⟨z, hz⟩ : ∃ z, tv ts = z := ⟨_, rfl⟩
  obtain ⟨y, hy⟩ : ∃ y, decide (SV s) = y := ⟨_, rfl⟩
  have he : decide (can ts s k) = (z && (y && (decide (0 ≤ k) && decide (k < (n : Int))))) := by
    rw [← hz, ← hy, ← hl]
    unfold can
    by_cases h1 : tv ts = true <;> by_cases h2 : SV s <;> by_cases h3 : 0 ≤ k <;> by_cases h4 : k < (ts.length : Int) <;> simp [h1, h2, h3, h4]
  rw [he]
  rw [hz] at CT
  rw [hy] at cs
  have CS := Lib.hid cs
  clear cs hl hz hy he R hn
  cases z
  · go_enter Tryz.func19, Tryz.ntmps19
    go_wp2_with (go_at_call 40; (with_reducible refine (CT.out _ J1).mono ?_); rintro _ _ ⟨rfl, B⟩; (replace BB := bon BB B; replace a0 := cell_below B a0; replace S0 := smp_below B S0; replace J1 := RdI.on J1 B))
    go_ret
    exact ⟨rfl, BB⟩
  cases y
  · go_enter Tryz.func19, Tryz.ntmps19
    go_wp2_with (first
      | (go_at_call 11; (with_reducible refine (CS.out _).mono ?_); rintro _ _ ⟨rfl, B⟩; (replace BB := bon BB B; replace a0 := cell_below B a0; replace S0 := smp_below B S0; replace J1 := RdI.on J1 B))
      | (go_at_call 40; (with_reducible refine (CT.out _ J1).mono ?_); rintro _ _ ⟨rfl, B⟩; (replace BB := bon BB B; replace a0 := cell_below B a0; replace S0 := smp_below B S0; replace J1 := RdI.on J1 B)))
    go_ret
    exact ⟨rfl, BB⟩
  by_cases h1 : 0 ≤ k
  rotate_left
  · have d1 : decide (0 ≤ k) = false := decide_eq_false h1
    rw [d1]
    clear h1
    go_enter Tryz.func19, Tryz.ntmps19
    go_wp2_with (first
      | (go_at_call 11; (with_reducible refine (CS.out _).mono ?_); rintro _ _ ⟨rfl, B⟩; (replace BB := bon BB B; replace a0 := cell_below B a0; replace S0 := smp_below B S0; replace J1 := RdI.on J1 B))
      | (go_at_call 40; (with_reducible refine (CT.out _ J1).mono ?_); rintro _ _ ⟨rfl, B⟩; (replace BB := bon BB B; replace a0 := cell_below B a0; replace S0 := smp_below B S0; replace J1 := RdI.on J1 B)))
    go_ret
    exact ⟨rfl, BB⟩
  have d1 : decide (0 ≤ k) = true := decide_eq_true h1
  rw [d1]
  clear h1
  go_enter Tryz.func19, Tryz.ntmps19
  go_wp2_with (first
    | (go_at_call 11; (with_reducible refine (CS.out _).mono ?_); rintro _ _ ⟨rfl, B⟩; (replace BB := bon BB B; replace a0 := cell_below B a0; replace S0 := smp_below B S0; replace J1 := RdI.on J1 B))
    | (go_at_call 40; (with_reducible refine (CT.out _ J1).mono ?_); rintro _ _ ⟨rfl, B⟩; (replace BB := bon BB B; replace a0 := cell_below B a0; replace S0 := smp_below B S0; replace J1 := RdI.on J1 B)))
  go_ret
  exact ⟨rfl, BB⟩

set_option maxRecDepth 100000 in
set_option maxHeartbeats 2000000 in
theorem rscol_b (A : Option Addr) (n c : Nat) (ts : List Tx) (s : Nat → Int) (x y : Int) (q : Nat) (w : World) (R : RdI w w.heap.size A n ts) (hq : q < n) (hq2 : q ≤ 9223372036854775807) :
    Calls Tryz.prog 23 #[.agg #[.slice A n c], .agg (smps s), .int .i64 x, .int .i64 y, .int .i64 q] w (GivesV w (col ts s x y q)) := by
  obtain ⟨BB, a0, S0, D⟩ := args_tsv w A n c s 24 30 28
  have J1 := R.on BB
  obtain ⟨b, off, t, rfl, _, TA, _, ht⟩ := J1.at_ hq
  obtain ⟨_, e1, e2, _⟩ := TA
  have hlv : lvl ts (q : Int) = t.m := by unfold lvl; rw [Int.toNat_natCast, List.getD, ht]; rfl
  have hc : col ts s x y (q : Int) = fun i => if idxv (s 0) x t.m.w < 0 ∨ idxv (s 1) y t.m.h < 0 then s (5 + i) else tgt ts (idxv (s 0) x t.m.w) (idxv (s 1) y t.m.h) q i := by funext i; unfold col; rw [hlv]
  rw [hc]
  have c1 := fun W => of_q (rindex_q (s 0) x t.m.w W)
  have c2 := fun W => of_q (rindex_q (s 1) y t.m.h W)
  obtain ⟨u, hu⟩ : ∃ u, idxv (s 0) x t.m.w = u := ⟨_, rfl⟩
  obtain ⟨v, hv⟩ : ∃ v, idxv (s 1) y t.m.h = v := ⟨_, rfl⟩
  rw [hu] at c1 ⊢
  rw [hv] at c2 ⊢
  have cg := fun W R => rtget_b (some ⟨b, off, none⟩) n c ts u v q W R
  have C1 := Lib.hid c1
  have C2 := Lib.hid c2
  obtain ⟨g, hg⟩ : ∃ g, tgt ts u v (q : Int) = g := ⟨_, rfl⟩
  rw [hg]
  have hqn : (q : Int) < (n : Int) := by omega
  obtain ⟨r, hr⟩ : ∃ r : Nat → Int, (fun i => if u < 0 ∨ v < 0 then s (5 + i) else g i) = r := ⟨_, rfl⟩
  rw [hr]
  have HR1 : Hid ((u < 0 ∨ v < 0) → r 0 = s 5 ∧ r 1 = s 6 ∧ r 2 = s 7 ∧ r 3 = s 8) := Lib.hid (fun h => by rw [← hr]; exact ⟨if_pos h, if_pos h, if_pos h, if_pos h⟩)
  have HR2 : Hid (¬ (u < 0 ∨ v < 0) → r = g) := Lib.hid (fun h => by rw [← hr]; funext i; exact if_neg h)
  unfold GivesV at cg ⊢
  simp only [hg] at cg
  have CG := Lib.hid cg
  clear c1 c2 cg hu hv hg hc hlv ht R hr
  go_enter Tryz.func23, Tryz.ntmps23
  go_wp2
  have k_a0 := cell_regrown a0
  have k_S0 := smp_regrown S0
  have k_e1 := cell_regrown e1
  have k_e2 := cell_regrown e2
  refine wp_region_quiet_below (by kernel_rfl) (by kernel_rfl) ?_
  repeat (first | (go_big_quiet_want; refine quiet_sload _ _ rfl smpT (fun W hW => smp_class S0 hW) rfl ?_; go_simp; go_big_quiet_on) | (go_big_quiet_want; refine quiet_bload _ _ rfl bordT (fun W hW => smp_class S0 hW) rfl ?_; go_simp; go_big_quiet_on) | go_big_quiet_step ((first | (go_at_call 42; with_reducible exact Calls.regrown_of (C1.out _)) | (go_at_call 42; with_reducible exact Calls.regrown_of (C2.out _)))) | quiet_step ((first | (go_at_call 42; with_reducible exact Calls.regrown_of (C1.out _)) | (go_at_call 42; with_reducible exact Calls.regrown_of (C2.out _)))))
  refine wpQuiet_nil ?_
  intro W hw'
  have B := below_regrown' hw'
  clear hw' k_a0 k_S0 k_e1 k_e2
  replace BB := bon BB B
  replace a0 := cell_below B a0
  replace S0 := smp_below B S0
  replace e1 := cell_below B e1
  replace e2 := cell_below B e2
  replace J1 := RdI.on J1 B
  replace D := D.on B
  clear B
  by_cases hu : u < 0
  · have HE := Lib.hid (HR1.out (.inl hu))
    clear C1 C2 CG HR1 HR2
    go_wp2_with (first
      | (refine wpList_bload rfl _ _ rfl bordT S0 rfl ?_)
      | (refine wpList_vset rfl _ _ _ rfl _ _ _ _ rfl rfl D (by kernel_rfl) ?_; intro V2 B2 D3 hD _))
    obtain ⟨⟨d0, d1, d2, d3⟩, _⟩ := D3
    exact bodyPost_ret (v := .agg #[.int .i64 (s 5), .int .i64 (s 6), .int .i64 (s 7), .int .i64 (s 8)]) (by simp [results, Tryz.results23, go_sem, *]) rfl ⟨by obtain ⟨e0, e1, e2, e3⟩ := HE.out; rw [e0, e1, e2, e3], BB.trans (B2.mono (by omega))⟩
  · by_cases hv : v < 0
    · have HE := Lib.hid (HR1.out (.inr hv))
      clear C1 C2 CG HR1 HR2
      go_wp2_with (first
        | (refine wpList_bload rfl _ _ rfl bordT S0 rfl ?_)
        | (refine wpList_vset rfl _ _ _ rfl _ _ _ _ rfl rfl D (by kernel_rfl) ?_; intro V2 B2 D3 hD _))
      obtain ⟨⟨d0, d1, d2, d3⟩, _⟩ := D3
      exact bodyPost_ret (v := .agg #[.int .i64 (s 5), .int .i64 (s 6), .int .i64 (s 7), .int .i64 (s 8)]) (by simp [results, Tryz.results23, go_sem, *]) rfl ⟨by obtain ⟨e0, e1, e2, e3⟩ := HE.out; rw [e0, e1, e2, e3], BB.trans (B2.mono (by omega))⟩
    · have hn0 : ¬ (u < 0 ∨ v < 0) := by omega
      obtain rfl := HR2.out hn0
      clear C1 C2 hn0 HR1 HR2
      go_wp2_with (first
        | (go_at_call 43; (with_reducible refine (CG.out _ J1).mono ?_); rintro _ V1 ⟨rfl, B⟩; replace D := D.on B; replace BB := bon BB B; clear B J1)
        | (refine wpList_vset rfl _ _ _ rfl _ _ _ _ rfl rfl D (by kernel_rfl) ?_; intro V2 B2 D3 hD _))
      obtain ⟨⟨d0, d1, d2, d3⟩, _⟩ := D3
      exact bodyPost_ret (v := .agg #[.int .i64 (r 0), .int .i64 (r 1), .int .i64 (r 2), .int .i64 (r 3)]) (by simp [results, Tryz.results23, go_sem, *]) rfl ⟨rfl, BB.trans (B2.mono (by omega))⟩

set_option maxRecDepth 100000 in
theorem rstexel_b (A : Option Addr) (n c : Nat) (ts : List Tx) (s : Nat → Int) (x y k : Int) (w : World) (R : RdI w w.heap.size A n ts) (hn : n ≤ 9223372036854775807) :
    Calls Tryz.prog 13 #[.agg #[.slice A n c], .agg (smps s), .int .i64 x, .int .i64 y, .int .i64 k] w (GivesV w (stx ts s x y k)) := by
  obtain ⟨BB, a0, S0, D⟩ := args_tsv w A n c s 24 30 28
  have J1 := R.on BB
  have hl := R.len
  have cs := fun W R => rslevel_b A n c ts s k W R hn
  by_cases hc : can ts s k
  · have he : stx ts s x y k = col ts s x y k := by funext i; unfold stx; rw [if_pos hc]
    obtain ⟨q, rfl⟩ : ∃ q : Nat, k = q := ⟨k.toNat, by have := hc.1.1; omega⟩
    have hq : q < n := by have := hc.1.2; omega
    have cg := fun W R => rscol_b A n c ts s x y q W R hq (by omega)
    rw [he]
    rw [decide_eq_true hc] at cs
    unfold GivesV at cg ⊢
    obtain ⟨g, hg⟩ : ∃ g, col ts s x y (q : Int) = g := ⟨_, rfl⟩
    simp only [hg] at cg ⊢
    have CS := Lib.hid cs
    have CG := Lib.hid cg
    clear cs cg hc he hg R hl hn hq
    go_enter Tryz.func13, Tryz.ntmps13
    go_wp2_with (first
      | (refine wpList_sload rfl _ _ rfl smpT S0 rfl ?_)
      | (go_at_call 19; (with_reducible refine (CS.out _ J1).mono ?_); rintro _ V1 ⟨rfl, B⟩; (replace BB := bon BB B; replace a0 := cell_below B a0; replace S0 := smp_below B S0; replace J1 := RdI.on J1 B); replace D := D.on B; clear B)
      | (go_at_call 23; (with_reducible refine (CG.out _ J1).mono ?_); rintro _ V1 ⟨rfl, B⟩; replace D := D.on B; replace BB := bon BB B; clear B J1 a0 S0)
      | (refine wpList_vset rfl _ _ _ rfl _ _ _ _ rfl rfl D (by kernel_rfl) ?_; intro V2 B2 D3 hD _))
    obtain ⟨⟨d0, d1, d2, d3⟩, _⟩ := D3
    exact bodyPost_ret (v := .agg #[.int .i64 (g 0), .int .i64 (g 1), .int .i64 (g 2), .int .i64 (g 3)]) (by simp [results, Tryz.results13, go_sem, *]) rfl ⟨rfl, BB.trans (B2.mono (by omega))⟩
  · have he : stx ts s x y k = fun _ => 0 := by funext i; unfold stx; rw [if_neg hc]
    rw [he]
    rw [decide_eq_false hc] at cs
    unfold GivesV
    have CS := Lib.hid cs
    clear cs hc he R hl hn
    go_enter Tryz.func13, Tryz.ntmps13
    go_wp2_with (first
      | (refine wpList_sload rfl _ _ rfl smpT S0 rfl ?_)
      | (go_at_call 19; (with_reducible refine (CS.out _ J1).mono ?_); rintro _ V1 ⟨rfl, B⟩; (replace BB := bon BB B; replace a0 := cell_below B a0; replace S0 := smp_below B S0; replace J1 := RdI.on J1 B); replace D := D.on B; clear B)
      | (refine wpList_vset rfl _ _ _ rfl _ _ _ _ rfl rfl D (by kernel_rfl) ?_; intro V2 B2 D3 hD _))
    obtain ⟨⟨d0, d1, d2, d3⟩, _⟩ := D3
    exact bodyPost_ret (v := .agg #[.int .i64 0, .int .i64 0, .int .i64 0, .int .i64 0]) (by simp [results, Tryz.results13, go_sem, *]) rfl ⟨rfl, BB.trans (B2.mono (by omega))⟩

theorem rslod_b (s : Nat → Int) (l : Int) (w : World) : Calls Tryz.prog 28 #[.agg (smps s), .int .i64 l] w fun e w' => e = .returned (.int .i64 (lodv s l)) ∧ Below w.heap.size w w' := by
  have BB := box_below w (smps s) 30
  have S0 := smp_box w s 30
  have cs := fun W => rsval_b s W
  unfold lodv
  by_cases h : SV s
  · rw [if_pos h]
    rw [decide_eq_true h] at cs
    have CS := Lib.hid cs
    clear cs h
    go_enter Tryz.func28, Tryz.ntmps28
    go_wp2_with (first
      | (refine wpList_sload rfl _ _ rfl smpT S0 rfl ?_)
      | (go_at_call 11; (with_reducible refine (CS.out _).mono ?_); rintro _ V1 ⟨rfl, B⟩; (replace BB := bon BB B; replace S0 := smp_below B S0); clear B))
    have k_S0 := smp_regrown S0
    refine wp_region_quiet_below (by kernel_rfl) (by kernel_rfl) ?_
    repeat (first | (go_big_quiet_want; refine quiet_sload _ _ rfl smpT (fun W hW => smp_class S0 hW) rfl ?_; go_simp; go_big_quiet_on) | (go_big_quiet_want; refine quiet_bload _ _ rfl bordT (fun W hW => smp_class S0 hW) rfl ?_; go_simp; go_big_quiet_on) | go_big_quiet_step ((first | (go_at_call 49; exact Calls.regrown_of (radd_b _ _ _)) | (go_at_call 41; exact Calls.regrown_of (rclamp_b _ _ _ _)))) | quiet_step ((first | (go_at_call 49; exact Calls.regrown_of (radd_b _ _ _)) | (go_at_call 41; exact Calls.regrown_of (rclamp_b _ _ _ _)))))
    refine wpQuiet_nil ?_
    intro W hw'
    have B := below_regrown' hw'
    clear hw' k_S0
    replace BB := bon BB B
    replace S0 := smp_below B S0
    go_wp2
    go_ret
    exact ⟨rfl, BB⟩
  · rw [if_neg h]
    rw [decide_eq_false h] at cs
    have CS := Lib.hid cs
    clear cs h
    go_enter Tryz.func28, Tryz.ntmps28
    go_wp2_with (first
      | (refine wpList_sload rfl _ _ rfl smpT S0 rfl ?_)
      | (go_at_call 11; (with_reducible refine (CS.out _).mono ?_); rintro _ V1 ⟨rfl, B⟩; (replace BB := bon BB B; replace S0 := smp_below B S0); clear B))
    go_ret
    exact ⟨rfl, BB⟩

section
variable {P : Program} {ops : Array Oper} {Q : Exit → Act → World → Prop} {rest : List Oper} {op : Oper} {a : Act} {W : World} {b : Nat} {x0 x1 x2 x3 : Int}
/-- A vector loaded. -/
theorem wpList_vloadT (hg : op.guard = none) (ty : TypeId) (x : Operand) (ho : op.op = .load ty x) (T : RowT P ty 4) (k : VecAt W b x0 x1 x2 x3)
    (hx : a.eval x = .pointer (some ⟨b, 0, none⟩)) (H : wpList P ops Q rest (a.put op.dst (.agg #[.int .i64 x0, .int .i64 x1, .int .i64 x2, .int .i64 x3])) W) : wpList P ops Q (op :: rest) a W := by
  obtain ⟨⟨d, h1, h2⟩, h3⟩ := T
  refine wpList_load_mid hg ty x ho b 0 hx [.int .i64 x0, .int .i64 x1, .int .i64 x2, .int .i64 x3] d (fun j v hv => ?_) h1 h2 h3 H
  match j, hv with
  | 0, hv => simp at hv; subst hv; exact k.1
  | 1, hv => simp at hv; subst hv; exact k.2.1
  | 2, hv => simp at hv; subst hv; exact k.2.2.1
  | 3, hv => simp at hv; subst hv; exact k.2.2.2
end

/-- The states of a region. -/
def rdDag : Dag := ⟨[[], [5], [15], [5, 12], [5, 15], [5, 12, 14], [5, 12, 15], [5, 12, 14, 15], [5, 12, 14, 15, 16]], [[(5, 1), (15, 2)], [(12, 3), (15, 4)], [(5, 4)], [(14, 5), (15, 6)], [(12, 6)], [(15, 7)], [(14, 7)], [(16, 8)], []], [5, 4, 4, 3, 3, 2, 2, 1, 0]⟩

def rdR (a0 : Act) (A : Option Addr) (n c : Nat) (s : Nat → Int) (x y lv fx : Int) (va vb vu : Nat → Int) : Act :=
  ((((((((((((a0.put (some 84) (.agg #[.slice A n c])).put (some 85) (.agg (smps s))).put (some 86) (.int .i64 x)).put (some 87) (.int .i64 y)).put (some 88) (.int .i64 lv)).put (some 90) (.agg #[.slice A n c])).put (some 91) (.agg (smps s))).put (some 92) (.int .i64 x)).put (some 93) (.int .i64 (x + 1))).put (some 94) (.int .i64 y)).put (some 95) (.int .i64 lv)).put (some 97) (.int .i64 fx))

@[reducible] def rdSt (w0 : World) (A : Option Addr) (n c : Nat) (s : Nat → Int) (x y lv fx : Int) (va vb vu : Nat → Int) (k : Nat) (a0 a' : Act) (W : World) : Prop := match k with
  | 0 => ∃ b23 : Nat, a' = (rdR a0 A n c s x y lv fx va vb vu) ∧ Below w0.heap.size w0 W
  | 1 => ∃ b23 : Nat, a' = ((rdR a0 A n c s x y lv fx va vb vu).put (some 89) (.agg #[.int .i64 (va 0), .int .i64 (va 1), .int .i64 (va 2), .int .i64 (va 3)])) ∧ Below w0.heap.size w0 W
  | 2 => ∃ b23 : Nat, a' = ((rdR a0 A n c s x y lv fx va vb vu).put (some 23) (.pointer (some ⟨b23, 0, none⟩))) ∧ Below w0.heap.size w0 W ∧ VBox W b23 0 0 0 0 ∧ w0.heap.size ≤ b23
  | 3 => ∃ b23 : Nat, a' = (((rdR a0 A n c s x y lv fx va vb vu).put (some 89) (.agg #[.int .i64 (va 0), .int .i64 (va 1), .int .i64 (va 2), .int .i64 (va 3)])).put (some 96) (.agg #[.int .i64 (vb 0), .int .i64 (vb 1), .int .i64 (vb 2), .int .i64 (vb 3)])) ∧ Below w0.heap.size w0 W
  | 4 => ∃ b23 : Nat, a' = (((rdR a0 A n c s x y lv fx va vb vu).put (some 89) (.agg #[.int .i64 (va 0), .int .i64 (va 1), .int .i64 (va 2), .int .i64 (va 3)])).put (some 23) (.pointer (some ⟨b23, 0, none⟩))) ∧ Below w0.heap.size w0 W ∧ VBox W b23 0 0 0 0 ∧ w0.heap.size ≤ b23
  | 5 => ∃ b23 : Nat, a' = ((((rdR a0 A n c s x y lv fx va vb vu).put (some 89) (.agg #[.int .i64 (va 0), .int .i64 (va 1), .int .i64 (va 2), .int .i64 (va 3)])).put (some 96) (.agg #[.int .i64 (vb 0), .int .i64 (vb 1), .int .i64 (vb 2), .int .i64 (vb 3)])).put (some 98) (.agg #[.int .i64 (vu 0), .int .i64 (vu 1), .int .i64 (vu 2), .int .i64 (vu 3)])) ∧ Below w0.heap.size w0 W
  | 6 => ∃ b23 : Nat, a' = ((((rdR a0 A n c s x y lv fx va vb vu).put (some 89) (.agg #[.int .i64 (va 0), .int .i64 (va 1), .int .i64 (va 2), .int .i64 (va 3)])).put (some 96) (.agg #[.int .i64 (vb 0), .int .i64 (vb 1), .int .i64 (vb 2), .int .i64 (vb 3)])).put (some 23) (.pointer (some ⟨b23, 0, none⟩))) ∧ Below w0.heap.size w0 W ∧ VBox W b23 0 0 0 0 ∧ w0.heap.size ≤ b23
  | 7 => ∃ b23 : Nat, a' = (((((rdR a0 A n c s x y lv fx va vb vu).put (some 89) (.agg #[.int .i64 (va 0), .int .i64 (va 1), .int .i64 (va 2), .int .i64 (va 3)])).put (some 96) (.agg #[.int .i64 (vb 0), .int .i64 (vb 1), .int .i64 (vb 2), .int .i64 (vb 3)])).put (some 98) (.agg #[.int .i64 (vu 0), .int .i64 (vu 1), .int .i64 (vu 2), .int .i64 (vu 3)])).put (some 23) (.pointer (some ⟨b23, 0, none⟩))) ∧ Below w0.heap.size w0 W ∧ VBox W b23 0 0 0 0 ∧ w0.heap.size ≤ b23
  | 8 => ∃ b23 : Nat, a' = (((((rdR a0 A n c s x y lv fx va vb vu).put (some 89) (.agg #[.int .i64 (va 0), .int .i64 (va 1), .int .i64 (va 2), .int .i64 (va 3)])).put (some 96) (.agg #[.int .i64 (vb 0), .int .i64 (vb 1), .int .i64 (vb 2), .int .i64 (vb 3)])).put (some 98) (.agg #[.int .i64 (vu 0), .int .i64 (vu 1), .int .i64 (vu 2), .int .i64 (vu 3)])).put (some 23) (.pointer (some ⟨b23, 0, none⟩))) ∧ Below w0.heap.size w0 W ∧ VBox W b23 (vu 0) (vu 1) (vu 2) (vu 3) ∧ w0.heap.size ≤ b23
  | _ => False

/-- The states of a region. -/
def reDag : Dag := ⟨[[], [6], [17], [6, 14], [6, 17], [6, 14, 16], [6, 14, 17], [6, 14, 16, 17], [6, 14, 16, 17, 18]], [[(6, 1), (17, 2)], [(14, 3), (17, 4)], [(6, 4)], [(16, 5), (17, 6)], [(14, 6)], [(17, 7)], [(16, 7)], [(18, 8)], []], [5, 4, 4, 3, 3, 2, 2, 1, 0]⟩

def reR (a0 : Act) (A : Option Addr) (n c : Nat) (s : Nat → Int) (x y lv fx : Int) (va vb vu : Nat → Int) : Act :=
  ((((((((((((((a0.put (some 99) (.agg #[.slice A n c])).put (some 100) (.agg (smps s))).put (some 101) (.int .i64 x)).put (some 102) (.int .i64 y)).put (some 103) (.int .i64 (y + 1))).put (some 104) (.int .i64 lv)).put (some 106) (.agg #[.slice A n c])).put (some 107) (.agg (smps s))).put (some 108) (.int .i64 x)).put (some 109) (.int .i64 (x + 1))).put (some 110) (.int .i64 y)).put (some 111) (.int .i64 (y + 1))).put (some 112) (.int .i64 lv)).put (some 114) (.int .i64 fx))

@[reducible] def reSt (w0 : World) (A : Option Addr) (n c : Nat) (s : Nat → Int) (x y lv fx : Int) (va vb vu : Nat → Int) (k : Nat) (a0 a' : Act) (W : World) : Prop := match k with
  | 0 => ∃ b24 : Nat, a' = (reR a0 A n c s x y lv fx va vb vu) ∧ Below w0.heap.size w0 W
  | 1 => ∃ b24 : Nat, a' = ((reR a0 A n c s x y lv fx va vb vu).put (some 105) (.agg #[.int .i64 (va 0), .int .i64 (va 1), .int .i64 (va 2), .int .i64 (va 3)])) ∧ Below w0.heap.size w0 W
  | 2 => ∃ b24 : Nat, a' = ((reR a0 A n c s x y lv fx va vb vu).put (some 24) (.pointer (some ⟨b24, 0, none⟩))) ∧ Below w0.heap.size w0 W ∧ VBox W b24 0 0 0 0 ∧ w0.heap.size ≤ b24
  | 3 => ∃ b24 : Nat, a' = (((reR a0 A n c s x y lv fx va vb vu).put (some 105) (.agg #[.int .i64 (va 0), .int .i64 (va 1), .int .i64 (va 2), .int .i64 (va 3)])).put (some 113) (.agg #[.int .i64 (vb 0), .int .i64 (vb 1), .int .i64 (vb 2), .int .i64 (vb 3)])) ∧ Below w0.heap.size w0 W
  | 4 => ∃ b24 : Nat, a' = (((reR a0 A n c s x y lv fx va vb vu).put (some 105) (.agg #[.int .i64 (va 0), .int .i64 (va 1), .int .i64 (va 2), .int .i64 (va 3)])).put (some 24) (.pointer (some ⟨b24, 0, none⟩))) ∧ Below w0.heap.size w0 W ∧ VBox W b24 0 0 0 0 ∧ w0.heap.size ≤ b24
  | 5 => ∃ b24 : Nat, a' = ((((reR a0 A n c s x y lv fx va vb vu).put (some 105) (.agg #[.int .i64 (va 0), .int .i64 (va 1), .int .i64 (va 2), .int .i64 (va 3)])).put (some 113) (.agg #[.int .i64 (vb 0), .int .i64 (vb 1), .int .i64 (vb 2), .int .i64 (vb 3)])).put (some 115) (.agg #[.int .i64 (vu 0), .int .i64 (vu 1), .int .i64 (vu 2), .int .i64 (vu 3)])) ∧ Below w0.heap.size w0 W
  | 6 => ∃ b24 : Nat, a' = ((((reR a0 A n c s x y lv fx va vb vu).put (some 105) (.agg #[.int .i64 (va 0), .int .i64 (va 1), .int .i64 (va 2), .int .i64 (va 3)])).put (some 113) (.agg #[.int .i64 (vb 0), .int .i64 (vb 1), .int .i64 (vb 2), .int .i64 (vb 3)])).put (some 24) (.pointer (some ⟨b24, 0, none⟩))) ∧ Below w0.heap.size w0 W ∧ VBox W b24 0 0 0 0 ∧ w0.heap.size ≤ b24
  | 7 => ∃ b24 : Nat, a' = (((((reR a0 A n c s x y lv fx va vb vu).put (some 105) (.agg #[.int .i64 (va 0), .int .i64 (va 1), .int .i64 (va 2), .int .i64 (va 3)])).put (some 113) (.agg #[.int .i64 (vb 0), .int .i64 (vb 1), .int .i64 (vb 2), .int .i64 (vb 3)])).put (some 115) (.agg #[.int .i64 (vu 0), .int .i64 (vu 1), .int .i64 (vu 2), .int .i64 (vu 3)])).put (some 24) (.pointer (some ⟨b24, 0, none⟩))) ∧ Below w0.heap.size w0 W ∧ VBox W b24 0 0 0 0 ∧ w0.heap.size ≤ b24
  | 8 => ∃ b24 : Nat, a' = (((((reR a0 A n c s x y lv fx va vb vu).put (some 105) (.agg #[.int .i64 (va 0), .int .i64 (va 1), .int .i64 (va 2), .int .i64 (va 3)])).put (some 113) (.agg #[.int .i64 (vb 0), .int .i64 (vb 1), .int .i64 (vb 2), .int .i64 (vb 3)])).put (some 115) (.agg #[.int .i64 (vu 0), .int .i64 (vu 1), .int .i64 (vu 2), .int .i64 (vu 3)])).put (some 24) (.pointer (some ⟨b24, 0, none⟩))) ∧ Below w0.heap.size w0 W ∧ VBox W b24 (vu 0) (vu 1) (vu 2) (vu 3) ∧ w0.heap.size ≤ b24
  | _ => False

set_option maxRecDepth 100000 in
set_option maxHeartbeats 20000000 in
theorem rslv2_b (A : Option Addr) (n c : Nat) (ts : List Tx) (s : Nat → Int) (u v : Int) (q : Nat) (w : World) (R : RdI w w.heap.size A n ts) (hn : n ≤ 9223372036854775807) (hcan : can ts s q) :
    Calls Tryz.prog 6 #[.agg #[.slice A n c], .agg (smps s), .int .i64 u, .int .i64 v, .int .i64 q, .int .i64 2] w (GivesV w (slv ts s u v q 2)) := by
  obtain ⟨BB, a0, S0, D⟩ := args_tsv w A n c s 24 30 28
  have JX := R.on BB
  have hl := R.len
  have cs := fun W R => rslevel_b A n c ts s q W R hn
  rw [decide_eq_true hcan] at cs
  have CS := Lib.hid cs
  have cfl := fun W => of_q (rfilter_q 2 W)
  have CFL := Lib.hid cfl
  have hok := can_ok hcan
  have hq : q < n := by have := hcan.1.2; omega
  have hq2 : q ≤ 9223372036854775807 := by omega
  obtain ⟨b, off, t, hA, hb, TA, TR, ht⟩ := JX.at_ hq
  have hlv : lvl ts (q : Int) = t.m := by unfold lvl; rw [Int.toNat_natCast, List.getD, ht]; rfl
  rw [hlv] at hok
  have pu := sat_w (x := u) hok.2.1
  have pv := sat_w (x := v) hok.2.2.1
  have cu := fun W => rsaturate_b u W
  have cv := fun W => rsaturate_b v W
  have he : slv ts s u v (q : Int) 2 = btw ts s (sat u * t.m.w - 32768) (sat v * t.m.h - 32768) q := by
    funext i
    unfold slv
    rw [if_pos hcan, hlv, if_neg (by omega), if_pos rfl]
  rw [he]
  obtain ⟨su, hsu⟩ : ∃ x, sat u = x := ⟨_, rfl⟩
  obtain ⟨sv, hsv⟩ : ∃ x, sat v = x := ⟨_, rfl⟩
  rw [hsu] at cu pu ⊢
  rw [hsv] at cv pv ⊢
  obtain ⟨aa, haa⟩ : ∃ x, su * t.m.w = x := ⟨_, rfl⟩
  obtain ⟨bb, hbb⟩ : ∃ x, sv * t.m.h = x := ⟨_, rfl⟩
  rw [haa] at pu ⊢
  rw [hbb] at pv ⊢
  have gu2 : IntKind.i64.wrap (su * t.m.w) = aa := by rw [haa]; exact IntWalk.i64_in _ (by omega)
  have gv2 : IntKind.i64.wrap (sv * t.m.h) = bb := by rw [hbb]; exact IntWalk.i64_in _ (by omega)
  have gs : IntKind.i64.wrap (aa - 32768) = aa - 32768 := IntWalk.i64_in _ (by omega)
  have gt : IntKind.i64.wrap (bb - 32768) = bb - 32768 := IntWalk.i64_in _ (by omega)
  have CSU := Lib.hid cu
  have CSV := Lib.hid cv
  clear cu cv
  obtain ⟨x, hx⟩ : ∃ x, (aa - 32768) / 65536 = x := ⟨_, rfl⟩
  obtain ⟨y, hy⟩ : ∃ y, (bb - 32768) / 65536 = y := ⟨_, rfl⟩
  obtain ⟨fx, hfx⟩ : ∃ x, (aa - 32768) % 65536 = x := ⟨_, rfl⟩
  obtain ⟨fy, hfy⟩ : ∃ x, (bb - 32768) % 65536 = x := ⟨_, rfl⟩
  have gx : IntKind.i64.wrap (x + 1) = x + 1 := IntWalk.i64_in _ (by omega)
  have gy : IntKind.i64.wrap (y + 1) = y + 1 := IntWalk.i64_in _ (by omega)
  have cwx := fun W => rsplit_q (aa - 32768) W (by omega) (by omega)
  have cwy := fun W => rsplit_q (bb - 32768) W (by omega) (by omega)
  rw [hx, hfx] at cwx
  rw [hy, hfy] at cwy
  have hr : btw ts s (aa - 32768) (bb - 32768) q = fun i => lerpv (lerpv (col ts s x y q i) (col ts s (x + 1) y q i) fx) (lerpv (col ts s x (y + 1) q i) (col ts s (x + 1) (y + 1) q i) fx) fy := by
    funext i
    unfold btw
    rw [hx, hy, hfx, hfy]
  rw [hr]
  have ca := fun W R => rscol_b A n c ts s x y q W R hq hq2
  have cb := fun W R => rscol_b A n c ts s (x + 1) y q W R hq hq2
  have cc := fun W R => rscol_b A n c ts s x (y + 1) q W R hq hq2
  have cd := fun W R => rscol_b A n c ts s (x + 1) (y + 1) q W R hq hq2
  unfold GivesV at ca cb cc cd ⊢
  obtain ⟨va, hva⟩ : ∃ v, col ts s x y (q : Int) = v := ⟨_, rfl⟩
  obtain ⟨vb, hvb⟩ : ∃ v, col ts s (x + 1) y (q : Int) = v := ⟨_, rfl⟩
  obtain ⟨vc, hvc⟩ : ∃ v, col ts s x (y + 1) (q : Int) = v := ⟨_, rfl⟩
  obtain ⟨vd, hvd⟩ : ∃ v, col ts s (x + 1) (y + 1) (q : Int) = v := ⟨_, rfl⟩
  simp only [hva, hvb, hvc, hvd] at ca cb cc cd ⊢
  have cu := fun W => rlerp4 (va 0) (va 1) (va 2) (va 3) (vb 0) (vb 1) (vb 2) (vb 3) fx W
  have cl := fun W => rlerp4 (vc 0) (vc 1) (vc 2) (vc 3) (vd 0) (vd 1) (vd 2) (vd 3) fx W
  obtain ⟨vu, hvu⟩ : ∃ v : Nat → Int, (fun i => lerpv (va i) (vb i) fx) = v := ⟨_, rfl⟩
  obtain ⟨vl, hvl⟩ : ∃ v : Nat → Int, (fun i => lerpv (vc i) (vd i) fx) = v := ⟨_, rfl⟩
  have hvu2 : ∀ i, lerpv (va i) (vb i) fx = vu i := fun i => congrFun hvu i
  have hvl2 : ∀ i, lerpv (vc i) (vd i) fx = vl i := fun i => congrFun hvl i
  simp only [hvu2] at cu ⊢
  simp only [hvl2] at cl ⊢
  have ce := fun W => rlerp4 (vu 0) (vu 1) (vu 2) (vu 3) (vl 0) (vl 1) (vl 2) (vl 3) fy W
  obtain ⟨ve, hve⟩ : ∃ v : Nat → Int, (fun i => lerpv (vu i) (vl i) fy) = v := ⟨_, rfl⟩
  have hve2 : ∀ i, lerpv (vu i) (vl i) fy = ve i := fun i => congrFun hve i
  simp only [hve2] at ce ⊢
  subst hA
  obtain ⟨_, e1, e2, _⟩ := TA
  have hqn : (q : Int) < (n : Int) := by omega
  have CWX := Lib.hid cwx
  have CWY := Lib.hid cwy
  have CA := Lib.hid ca
  have CB := Lib.hid cb
  have CC := Lib.hid cc
  have CD := Lib.hid cd
  have CU := Lib.hid cu
  have CL := Lib.hid cl
  have CE := Lib.hid ce
  clear cs cfl cwx cwy ca cb cc cd cu cl ce hva hvb hvc hvd hvu hvl hve hvu2 hvl2 hve2 hr hx hy hfx hfy he hlv hok hcan hsu hsv haa hbb pu pv TR ht hl hn R
  go_enter Tryz.func6, Tryz.ntmps6
  go_wp2_with (first
    | (refine wpList_sload rfl _ _ rfl smpT S0 rfl ?_)
    | (go_at_call 19; (with_reducible refine (CS.out _ JX).mono ?_); rintro _ V1 ⟨rfl, B⟩; (replace BB := bon BB B; replace a0 := cell_below B a0; replace S0 := smp_below B S0; replace e1 := cell_below B e1; replace e2 := cell_below B e2; replace JX := RdI.on JX B); replace D := D.on B; clear B)
    | (go_at_call 20; (with_reducible refine (CFL.out _).mono ?_); rintro _ V1 ⟨rfl, B⟩; (replace BB := bon BB B; replace a0 := cell_below B a0; replace S0 := smp_below B S0; replace e1 := cell_below B e1; replace e2 := cell_below B e2; replace JX := RdI.on JX B); replace D := D.on B; clear B))
  have k_a0 := cell_regrown a0
  have k_S0 := smp_regrown S0
  have k_e1 := cell_regrown e1
  have k_e2 := cell_regrown e2
  refine wp_region_quiet_below (by kernel_rfl) (by kernel_rfl) ?_
  repeat (first | (go_big_quiet_want; refine quiet_sload _ _ rfl smpT (fun W hW => smp_class S0 hW) rfl ?_; go_simp; go_big_quiet_on) | (go_big_quiet_want; refine quiet_bload _ _ rfl bordT (fun W hW => smp_class S0 hW) rfl ?_; go_simp; go_big_quiet_on) | go_big_quiet_step ((first | (go_at_call 21; with_reducible exact Calls.regrown_of (CSU.out _)) | (go_at_call 21; with_reducible exact Calls.regrown_of (CSV.out _)))) | quiet_step ((first | (go_at_call 21; with_reducible exact Calls.regrown_of (CSU.out _)) | (go_at_call 21; with_reducible exact Calls.regrown_of (CSV.out _)))))
  refine wpQuiet_nil ?_
  intro W hw'
  have B := below_regrown' hw'
  clear hw' k_a0 k_S0 k_e1 k_e2
  replace BB := bon BB B
  replace a0 := cell_below B a0
  replace S0 := smp_below B S0
  replace e1 := cell_below B e1
  replace e2 := cell_below B e2
  replace JX := RdI.on JX B
  replace D := D.on B
  clear B CSU CSV CS CFL gu2 gv2 e1 e2
  go_wp2_with (first
    | (go_at_call 22; (with_reducible refine (CWX.out _).mono ?_); rintro _ _ ⟨rfl, rfl⟩)
    | (go_at_call 22; (with_reducible refine (CWY.out _).mono ?_); rintro _ _ ⟨rfl, rfl⟩))
  obtain ⟨lv, hk⟩ : ∃ k : Int, (q : Int) = k := ⟨_, rfl⟩
  obtain ⟨A, hA⟩ : ∃ A : Option Addr, some ⟨b, off, none⟩ = A := ⟨_, rfl⟩
  rw [hk] at CA CB CC CD ⊢
  rw [hA] at CA CB CC CD a0 JX ⊢
  refine letter (S := fun W => Below w.heap.size w W ∧ W.cell? ⟨w.heap.size, 0, none⟩ = some (.slice A n c) ∧ (∀ i, i < 12 → W.cell? ⟨w.heap.size + 1, i, none⟩ = some (.int .i64 (s i))) ∧ VBox W (w.heap.size + 2) 0 0 0 0 ∧ RdI W W.heap.size A n ts) ?_ ⟨BB, a0, S0, D, JX⟩
  clear BB a0 S0 D JX hk hA hqn hq hq2 CWX CWY gs gt
  rintro W0 ⟨BB, a0, S0, D, JX⟩
  refine wp_region_dag (rdSt W0 A n c s x y lv fx va vb vu) (fun U => Below W0.heap.size W0 U) [0, 1, 2, 3, 4, 6, 7, 8, 9, 10, 11, 13] rdDag 8 (by kernel_rfl) (by kernel_rfl) (fun U hB => hB) ?_ ?_ ?_
  · intro V0 F
    refine rd_step rfl ?_
    refine wpQuiet_step (fun K hK => ?_)
    rw [if_pos (by rfl)]
    refine quiet_txload _ _ rfl texT (fun W hW => cell_below hW a0) rfl ?_
    go_simp
    refine hK _ ?_
    clear hK K
    refine wpQuiet_nil ?_
    refine rd_step rfl ?_
    refine wpQuiet_step (fun K hK => ?_)
    rw [if_pos (by rfl)]
    refine quiet_sload _ _ rfl smpT (fun W hW => smp_below hW S0) rfl ?_
    go_simp
    refine hK _ ?_
    clear hK K
    refine wpQuiet_nil ?_
    refine rd_step rfl ?_
    refine wpQuiet_step (fun K hK => ?_)
    rw [if_pos (by rfl)]
    first | refine quiet_move _ rfl ?_ | refine quiet_assign _ rfl ?_
    go_simp
    refine hK _ ?_
    clear hK K
    refine wpQuiet_nil ?_
    refine rd_step rfl ?_
    refine wpQuiet_step (fun K hK => ?_)
    rw [if_pos (by rfl)]
    first | refine quiet_move _ rfl ?_ | refine quiet_assign _ rfl ?_
    go_simp
    refine hK _ ?_
    clear hK K
    refine wpQuiet_nil ?_
    refine rd_step rfl ?_
    refine wpQuiet_step (fun K hK => ?_)
    rw [if_pos (by rfl)]
    first | refine quiet_move _ rfl ?_ | refine quiet_assign _ rfl ?_
    go_simp
    refine hK _ ?_
    clear hK K
    refine wpQuiet_nil ?_
    refine rd_step rfl ?_
    refine wpQuiet_step (fun K hK => ?_)
    rw [if_pos (by rfl)]
    refine quiet_txload _ _ rfl texT (fun W hW => cell_below hW a0) rfl ?_
    go_simp
    refine hK _ ?_
    clear hK K
    refine wpQuiet_nil ?_
    refine rd_step rfl ?_
    refine wpQuiet_step (fun K hK => ?_)
    rw [if_pos (by rfl)]
    refine quiet_sload _ _ rfl smpT (fun W hW => smp_below hW S0) rfl ?_
    go_simp
    refine hK _ ?_
    clear hK K
    refine wpQuiet_nil ?_
    refine rd_step rfl ?_
    refine wpQuiet_step (fun K hK => ?_)
    rw [if_pos (by rfl)]
    first | refine quiet_move _ rfl ?_ | refine quiet_assign _ rfl ?_
    go_simp
    refine hK _ ?_
    clear hK K
    refine wpQuiet_nil ?_
    refine rd_step rfl ?_
    refine wpQuiet_step (fun K hK => ?_)
    rw [if_pos (by rfl)]
    refine quiet_val (.int .i64 (x + 1)) (fun W hW => by simp [execOp, go_sem, gx]) ?_
    go_simp
    refine hK _ ?_
    clear hK K
    refine wpQuiet_nil ?_
    refine rd_step rfl ?_
    refine wpQuiet_step (fun K hK => ?_)
    rw [if_pos (by rfl)]
    first | refine quiet_move _ rfl ?_ | refine quiet_assign _ rfl ?_
    go_simp
    refine hK _ ?_
    clear hK K
    refine wpQuiet_nil ?_
    refine rd_step rfl ?_
    refine wpQuiet_step (fun K hK => ?_)
    rw [if_pos (by rfl)]
    first | refine quiet_move _ rfl ?_ | refine quiet_assign _ rfl ?_
    go_simp
    refine hK _ ?_
    clear hK K
    refine wpQuiet_nil ?_
    refine rd_step rfl ?_
    refine wpQuiet_step (fun K hK => ?_)
    rw [if_pos (by rfl)]
    first | refine quiet_move _ rfl ?_ | refine quiet_assign _ rfl ?_
    go_simp
    refine hK _ ?_
    clear hK K
    refine wpQuiet_nil ?_
    exact ⟨0, (by unfold rdR; go_simp), F⟩
  · intro k hk
    match k, hk with
    | 0, _ =>
      intro a' W h
      obtain ⟨b23, rfl, F⟩ := h
      refine ⟨fun h => absurd h (by decide), ?_⟩
      refine al2 ?_ ?_
      · refine ⟨_, rfl, ?_⟩
        unfold rdR
        go_simp
        go_wp2_with (go_at_call 23; (refine (CA.out _ (JX.on F)).mono ?_); rintro _ V ⟨rfl, B⟩)
        exact ⟨bon F B, b23, (by unfold rdR; go_simp), bon F B⟩
      · refine ⟨_, rfl, ?_⟩
        unfold rdR
        go_simp
        go_wp2_with fail
        have bx := box_below W #[.int .i64 0, .int .i64 0, .int .i64 0, .int .i64 0] 28
        exact ⟨bon F bx, W.heap.size, (by unfold rdR; go_simp), bon F bx, VBox.made W 0 0 0 0 28, F.size⟩
    | 1, _ =>
      intro a' W h
      obtain ⟨b23, rfl, F⟩ := h
      refine ⟨fun h => absurd h (by decide), ?_⟩
      refine al2 ?_ ?_
      · refine ⟨_, rfl, ?_⟩
        unfold rdR
        go_simp
        go_wp2_with (go_at_call 23; (refine (CB.out _ (JX.on F)).mono ?_); rintro _ V ⟨rfl, B⟩)
        exact ⟨bon F B, b23, (by unfold rdR; go_simp), bon F B⟩
      · refine ⟨_, rfl, ?_⟩
        unfold rdR
        go_simp
        go_wp2_with fail
        have bx := box_below W #[.int .i64 0, .int .i64 0, .int .i64 0, .int .i64 0] 28
        exact ⟨bon F bx, W.heap.size, (by unfold rdR; go_simp), bon F bx, VBox.made W 0 0 0 0 28, F.size⟩
    | 2, _ =>
      intro a' W h
      obtain ⟨b23, rfl, F, E23, G23⟩ := h
      refine ⟨fun h => absurd h (by decide), ?_⟩
      refine al1 ?_
      · refine ⟨_, rfl, ?_⟩
        unfold rdR
        go_simp
        go_wp2_with (go_at_call 23; (refine (CA.out _ (JX.on F)).mono ?_); rintro _ V ⟨rfl, B⟩)
        exact ⟨bon F B, b23, (by unfold rdR; go_simp), bon F B, E23.on B, G23⟩
    | 3, _ =>
      intro a' W h
      obtain ⟨b23, rfl, F⟩ := h
      refine ⟨fun h => absurd h (by decide), ?_⟩
      refine al2 ?_ ?_
      · refine ⟨_, rfl, ?_⟩
        unfold rdR
        go_simp
        go_wp2_with (go_at_call 24; (refine (CU.out _).mono ?_); rintro _ V ⟨rfl, B⟩)
        exact ⟨bon F B, b23, (by unfold rdR; go_simp), bon F B⟩
      · refine ⟨_, rfl, ?_⟩
        unfold rdR
        go_simp
        go_wp2_with fail
        have bx := box_below W #[.int .i64 0, .int .i64 0, .int .i64 0, .int .i64 0] 28
        exact ⟨bon F bx, W.heap.size, (by unfold rdR; go_simp), bon F bx, VBox.made W 0 0 0 0 28, F.size⟩
    | 4, _ =>
      intro a' W h
      obtain ⟨b23, rfl, F, E23, G23⟩ := h
      refine ⟨fun h => absurd h (by decide), ?_⟩
      refine al1 ?_
      · refine ⟨_, rfl, ?_⟩
        unfold rdR
        go_simp
        go_wp2_with (go_at_call 23; (refine (CB.out _ (JX.on F)).mono ?_); rintro _ V ⟨rfl, B⟩)
        exact ⟨bon F B, b23, (by unfold rdR; go_simp), bon F B, E23.on B, G23⟩
    | 5, _ =>
      intro a' W h
      obtain ⟨b23, rfl, F⟩ := h
      refine ⟨fun h => absurd h (by decide), ?_⟩
      refine al1 ?_
      · refine ⟨_, rfl, ?_⟩
        unfold rdR
        go_simp
        go_wp2_with fail
        have bx := box_below W #[.int .i64 0, .int .i64 0, .int .i64 0, .int .i64 0] 28
        exact ⟨bon F bx, W.heap.size, (by unfold rdR; go_simp), bon F bx, VBox.made W 0 0 0 0 28, F.size⟩
    | 6, _ =>
      intro a' W h
      obtain ⟨b23, rfl, F, E23, G23⟩ := h
      refine ⟨fun h => absurd h (by decide), ?_⟩
      refine al1 ?_
      · refine ⟨_, rfl, ?_⟩
        unfold rdR
        go_simp
        go_wp2_with (go_at_call 24; (refine (CU.out _).mono ?_); rintro _ V ⟨rfl, B⟩)
        exact ⟨bon F B, b23, (by unfold rdR; go_simp), bon F B, E23.on B, G23⟩
    | 7, _ =>
      intro a' W h
      obtain ⟨b23, rfl, F, E23, G23⟩ := h
      refine ⟨fun h => absurd h (by decide), ?_⟩
      refine al1 ?_
      · refine ⟨_, rfl, ?_⟩
        unfold rdR
        go_simp
        go_wp2_with (refine wpList_vset rfl _ _ _ rfl _ _ _ _ rfl rfl E23 (by kernel_rfl) ?_; intro V B E23' hv _)
        exact ⟨F.trans (B.mono G23), b23, (by unfold rdR; go_simp), F.trans (B.mono G23), E23', G23⟩
    | 8, _ =>
      intro a' W h
      obtain ⟨b23, rfl, F, E23, G23⟩ := h
      exact ⟨fun _ => rfl, fun e he => by cases he⟩
    | k + 9, hk => exact absurd hk (by show ¬ k + 9 < 9; omega)
  rintro _ U1 ⟨b23, rfl, F, E23, G23⟩
  replace BB := bon BB F
  replace a0 := cell_below F a0
  replace S0 := smp_below F S0
  replace D := D.on F
  replace JX := JX.on F
  clear F G23
  unfold rdR
  go_simp
  go_wp2_with fail
  refine wp_region_dag (reSt U1 A n c s x y lv fx vc vd vl) (fun U => Below U1.heap.size U1 U) [0, 1, 2, 3, 4, 5, 7, 8, 9, 10, 11, 12, 13, 15] reDag 8 (by kernel_rfl) (by kernel_rfl) (fun U hB => hB) ?_ ?_ ?_
  · intro V0 F
    refine rd_step rfl ?_
    refine wpQuiet_step (fun K hK => ?_)
    rw [if_pos (by rfl)]
    refine quiet_txload _ _ rfl texT (fun W hW => cell_below hW a0) rfl ?_
    go_simp
    refine hK _ ?_
    clear hK K
    refine wpQuiet_nil ?_
    refine rd_step rfl ?_
    refine wpQuiet_step (fun K hK => ?_)
    rw [if_pos (by rfl)]
    refine quiet_sload _ _ rfl smpT (fun W hW => smp_below hW S0) rfl ?_
    go_simp
    refine hK _ ?_
    clear hK K
    refine wpQuiet_nil ?_
    refine rd_step rfl ?_
    refine wpQuiet_step (fun K hK => ?_)
    rw [if_pos (by rfl)]
    first | refine quiet_move _ rfl ?_ | refine quiet_assign _ rfl ?_
    go_simp
    refine hK _ ?_
    clear hK K
    refine wpQuiet_nil ?_
    refine rd_step rfl ?_
    refine wpQuiet_step (fun K hK => ?_)
    rw [if_pos (by rfl)]
    first | refine quiet_move _ rfl ?_ | refine quiet_assign _ rfl ?_
    go_simp
    refine hK _ ?_
    clear hK K
    refine wpQuiet_nil ?_
    refine rd_step rfl ?_
    refine wpQuiet_step (fun K hK => ?_)
    rw [if_pos (by rfl)]
    refine quiet_val (.int .i64 (y + 1)) (fun W hW => by simp [execOp, go_sem, gy]) ?_
    go_simp
    refine hK _ ?_
    clear hK K
    refine wpQuiet_nil ?_
    refine rd_step rfl ?_
    refine wpQuiet_step (fun K hK => ?_)
    rw [if_pos (by rfl)]
    first | refine quiet_move _ rfl ?_ | refine quiet_assign _ rfl ?_
    go_simp
    refine hK _ ?_
    clear hK K
    refine wpQuiet_nil ?_
    refine rd_step rfl ?_
    refine wpQuiet_step (fun K hK => ?_)
    rw [if_pos (by rfl)]
    refine quiet_txload _ _ rfl texT (fun W hW => cell_below hW a0) rfl ?_
    go_simp
    refine hK _ ?_
    clear hK K
    refine wpQuiet_nil ?_
    refine rd_step rfl ?_
    refine wpQuiet_step (fun K hK => ?_)
    rw [if_pos (by rfl)]
    refine quiet_sload _ _ rfl smpT (fun W hW => smp_below hW S0) rfl ?_
    go_simp
    refine hK _ ?_
    clear hK K
    refine wpQuiet_nil ?_
    refine rd_step rfl ?_
    refine wpQuiet_step (fun K hK => ?_)
    rw [if_pos (by rfl)]
    first | refine quiet_move _ rfl ?_ | refine quiet_assign _ rfl ?_
    go_simp
    refine hK _ ?_
    clear hK K
    refine wpQuiet_nil ?_
    refine rd_step rfl ?_
    refine wpQuiet_step (fun K hK => ?_)
    rw [if_pos (by rfl)]
    refine quiet_val (.int .i64 (x + 1)) (fun W hW => by simp [execOp, go_sem, gx]) ?_
    go_simp
    refine hK _ ?_
    clear hK K
    refine wpQuiet_nil ?_
    refine rd_step rfl ?_
    refine wpQuiet_step (fun K hK => ?_)
    rw [if_pos (by rfl)]
    first | refine quiet_move _ rfl ?_ | refine quiet_assign _ rfl ?_
    go_simp
    refine hK _ ?_
    clear hK K
    refine wpQuiet_nil ?_
    refine rd_step rfl ?_
    refine wpQuiet_step (fun K hK => ?_)
    rw [if_pos (by rfl)]
    refine quiet_val (.int .i64 (y + 1)) (fun W hW => by simp [execOp, go_sem, gy]) ?_
    go_simp
    refine hK _ ?_
    clear hK K
    refine wpQuiet_nil ?_
    refine rd_step rfl ?_
    refine wpQuiet_step (fun K hK => ?_)
    rw [if_pos (by rfl)]
    first | refine quiet_move _ rfl ?_ | refine quiet_assign _ rfl ?_
    go_simp
    refine hK _ ?_
    clear hK K
    refine wpQuiet_nil ?_
    refine rd_step rfl ?_
    refine wpQuiet_step (fun K hK => ?_)
    rw [if_pos (by rfl)]
    first | refine quiet_move _ rfl ?_ | refine quiet_assign _ rfl ?_
    go_simp
    refine hK _ ?_
    clear hK K
    refine wpQuiet_nil ?_
    exact ⟨0, (by unfold reR; go_simp), F⟩
  · intro k hk
    match k, hk with
    | 0, _ =>
      intro a' W h
      obtain ⟨b24, rfl, F⟩ := h
      refine ⟨fun h => absurd h (by decide), ?_⟩
      refine al2 ?_ ?_
      · refine ⟨_, rfl, ?_⟩
        unfold reR
        go_simp
        go_wp2_with (go_at_call 23; (refine (CC.out _ (JX.on F)).mono ?_); rintro _ V ⟨rfl, B⟩)
        exact ⟨bon F B, b24, (by unfold reR; go_simp), bon F B⟩
      · refine ⟨_, rfl, ?_⟩
        unfold reR
        go_simp
        go_wp2_with fail
        have bx := box_below W #[.int .i64 0, .int .i64 0, .int .i64 0, .int .i64 0] 28
        exact ⟨bon F bx, W.heap.size, (by unfold reR; go_simp), bon F bx, VBox.made W 0 0 0 0 28, F.size⟩
    | 1, _ =>
      intro a' W h
      obtain ⟨b24, rfl, F⟩ := h
      refine ⟨fun h => absurd h (by decide), ?_⟩
      refine al2 ?_ ?_
      · refine ⟨_, rfl, ?_⟩
        unfold reR
        go_simp
        go_wp2_with (go_at_call 23; (refine (CD.out _ (JX.on F)).mono ?_); rintro _ V ⟨rfl, B⟩)
        exact ⟨bon F B, b24, (by unfold reR; go_simp), bon F B⟩
      · refine ⟨_, rfl, ?_⟩
        unfold reR
        go_simp
        go_wp2_with fail
        have bx := box_below W #[.int .i64 0, .int .i64 0, .int .i64 0, .int .i64 0] 28
        exact ⟨bon F bx, W.heap.size, (by unfold reR; go_simp), bon F bx, VBox.made W 0 0 0 0 28, F.size⟩
    | 2, _ =>
      intro a' W h
      obtain ⟨b24, rfl, F, E24, G24⟩ := h
      refine ⟨fun h => absurd h (by decide), ?_⟩
      refine al1 ?_
      · refine ⟨_, rfl, ?_⟩
        unfold reR
        go_simp
        go_wp2_with (go_at_call 23; (refine (CC.out _ (JX.on F)).mono ?_); rintro _ V ⟨rfl, B⟩)
        exact ⟨bon F B, b24, (by unfold reR; go_simp), bon F B, E24.on B, G24⟩
    | 3, _ =>
      intro a' W h
      obtain ⟨b24, rfl, F⟩ := h
      refine ⟨fun h => absurd h (by decide), ?_⟩
      refine al2 ?_ ?_
      · refine ⟨_, rfl, ?_⟩
        unfold reR
        go_simp
        go_wp2_with (go_at_call 24; (refine (CL.out _).mono ?_); rintro _ V ⟨rfl, B⟩)
        exact ⟨bon F B, b24, (by unfold reR; go_simp), bon F B⟩
      · refine ⟨_, rfl, ?_⟩
        unfold reR
        go_simp
        go_wp2_with fail
        have bx := box_below W #[.int .i64 0, .int .i64 0, .int .i64 0, .int .i64 0] 28
        exact ⟨bon F bx, W.heap.size, (by unfold reR; go_simp), bon F bx, VBox.made W 0 0 0 0 28, F.size⟩
    | 4, _ =>
      intro a' W h
      obtain ⟨b24, rfl, F, E24, G24⟩ := h
      refine ⟨fun h => absurd h (by decide), ?_⟩
      refine al1 ?_
      · refine ⟨_, rfl, ?_⟩
        unfold reR
        go_simp
        go_wp2_with (go_at_call 23; (refine (CD.out _ (JX.on F)).mono ?_); rintro _ V ⟨rfl, B⟩)
        exact ⟨bon F B, b24, (by unfold reR; go_simp), bon F B, E24.on B, G24⟩
    | 5, _ =>
      intro a' W h
      obtain ⟨b24, rfl, F⟩ := h
      refine ⟨fun h => absurd h (by decide), ?_⟩
      refine al1 ?_
      · refine ⟨_, rfl, ?_⟩
        unfold reR
        go_simp
        go_wp2_with fail
        have bx := box_below W #[.int .i64 0, .int .i64 0, .int .i64 0, .int .i64 0] 28
        exact ⟨bon F bx, W.heap.size, (by unfold reR; go_simp), bon F bx, VBox.made W 0 0 0 0 28, F.size⟩
    | 6, _ =>
      intro a' W h
      obtain ⟨b24, rfl, F, E24, G24⟩ := h
      refine ⟨fun h => absurd h (by decide), ?_⟩
      refine al1 ?_
      · refine ⟨_, rfl, ?_⟩
        unfold reR
        go_simp
        go_wp2_with (go_at_call 24; (refine (CL.out _).mono ?_); rintro _ V ⟨rfl, B⟩)
        exact ⟨bon F B, b24, (by unfold reR; go_simp), bon F B, E24.on B, G24⟩
    | 7, _ =>
      intro a' W h
      obtain ⟨b24, rfl, F, E24, G24⟩ := h
      refine ⟨fun h => absurd h (by decide), ?_⟩
      refine al1 ?_
      · refine ⟨_, rfl, ?_⟩
        unfold reR
        go_simp
        go_wp2_with (refine wpList_vset rfl _ _ _ rfl _ _ _ _ rfl rfl E24 (by kernel_rfl) ?_; intro V B E24' hv _)
        exact ⟨F.trans (B.mono G24), b24, (by unfold reR; go_simp), F.trans (B.mono G24), E24', G24⟩
    | 8, _ =>
      intro a' W h
      obtain ⟨b24, rfl, F, E24, G24⟩ := h
      exact ⟨fun _ => rfl, fun e he => by cases he⟩
    | k + 9, hk => exact absurd hk (by show ¬ k + 9 < 9; omega)
  rintro _ U2 ⟨b24, rfl, F, E24, G24⟩
  replace BB := bon BB F
  replace a0 := cell_below F a0
  replace S0 := smp_below F S0
  replace D := D.on F
  replace JX := JX.on F
  replace E23 := E23.on F
  clear F G24
  unfold reR
  go_simp
  have V13 := E23.1
  have V14 := E24.1
  clear E23 E24 a0 S0 JX
  go_wp2_with (first
    | (refine wpList_vloadT rfl _ _ rfl bordT V13 rfl ?_)
    | (refine wpList_vloadT rfl _ _ rfl bordT V14 rfl ?_)
    | (go_at_call 24; (with_reducible refine (CE.out _).mono ?_); rintro _ V1 ⟨rfl, B⟩; replace D := D.on B; replace BB := bon BB B; clear B)
    | (refine wpList_vset rfl _ _ _ rfl _ _ _ _ rfl rfl D (by kernel_rfl) ?_; intro V2 B2 D3 hD _))
  obtain ⟨⟨d0, d1, d2, d3⟩, _⟩ := D3
  exact bodyPost_ret (v := .agg #[.int .i64 (ve 0), .int .i64 (ve 1), .int .i64 (ve 2), .int .i64 (ve 3)]) (by simp [results, Tryz.results6, go_sem, *]) rfl ⟨rfl, BB.trans (B2.mono (by omega))⟩

end Go.Proofs.YtoipmldbjciinaaGreat
