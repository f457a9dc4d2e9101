/- The walk of SamplerLinearGrid, width 8. Written by tools/gen/genS12.py. -/
import Derived.Test.YtoipmldbjciinaaS11
import Derived.Test.YtoipmldbjciinaaS5
import Derived.Test.YtoipmldbjciinaaPair
import Derived.Test.YtoipmldbjciinaaOpenS
namespace Go.Proofs.Ytoipmldbjciinaa
open Go.RowKit Go.Sort
set_option linter.unusedVariables false

section
variable {P : Program} {ops : Array Oper} {Q : Exit → Act → World → Prop} {rest : List Oper} {a : Act} {W : World} {b : Nat} {s : Nat → Int}

/-- A sampler loaded, something stored, as the operations are written out. -/
theorem sloadG8 {dst : Option Tmp} {ty t : TypeId} {x : Operand} {pos : String} {after : Array Edge} (T : RowT P t 12) (k : (∀ i, i < 12 → W.cell? ⟨b, i, none⟩ = some (.int .i64 (s i)))) (hx : a.eval x = .pointer (some ⟨b, 0, none⟩))
    (H : wpList P ops Q rest (a.put dst (.agg (smps s))) W) : wpList P ops Q ({ dst := dst, op := .load t x, type := ty, pos := pos, after := after, guard := none } :: rest) a W :=
  wpList_sload rfl t x rfl T k hx H
theorem storeG8 {dst : Option Tmp} {ty t : TypeId} {x y : Operand} {pos : String} {after : Array Edge}
    (H : wpList P ops Q ({ dst := dst, op := .store t x y, type := ty, pos := pos, after := after, guard := none } :: rest) a W) : wpList P ops Q ({ dst := dst, op := .store t x y, type := ty, pos := pos, after := after, guard := none } :: rest) a W := H
end

set_option maxRecDepth 100000 in
set_option maxHeartbeats 8000000 in
theorem grid_8 (A : Option Addr) (n c : Nat) (ts : List Tx) (s : Nat → Int) (a b : Int) (w : World) (R : RdI w w.heap.size A n ts) (hn : n ≤ 9223372036854775807) (hn0 : 0 < n) (hw : (lvl ts 0).w = 8) :
    Calls Try.prog 6 #[.agg #[.slice A n c], .agg (smps s), .agg #[.int .i64 a, .int .i64 b]] w fun e w' => e = .returned (.bool true) ∧ Below w.heap.size w w' := by
  obtain ⟨B0, a0, S0⟩ := args_ts w A n c s 41 27
  have B1 := box_below ((w.alloc (.cells #[.slice A n c] 41)).alloc (.cells (smps s) 27)) #[.int .i64 a, .int .i64 b] 28
  have P0 := (P2Box.made ((w.alloc (.cells #[.slice A n c] 41)).alloc (.cells (smps s) 27)) a b 28).1
  have z2 : ((w.alloc (.cells #[.slice A n c] 41)).alloc (.cells (smps s) 27)).heap.size = w.heap.size + 2 := by simp
  rw [z2] at P0
  replace a0 := cell_below B1 a0
  replace S0 := smp_below B1 S0
  have BB := bon B0 B1
  have J1 := R.on BB
  have CE := Lib.hid (fun W => sexample_b W)
  obtain ⟨p0, p1⟩ := P0
  obtain ⟨bb, off, t, rfl, _, TA, _, ht⟩ := J1.at_ hn0
  obtain ⟨_, e1, e2, _⟩ := TA
  simp only [Nat.zero_mul, Nat.add_zero] at e1 e2
  have hl : lvl ts 0 = t.m := by unfold lvl; simp [List.getD, ht]
  obtain ⟨lh, hlh⟩ : ∃ x, (lvl ts 0).h = x := ⟨_, rfl⟩
  rw [← hl, hw] at e1
  rw [← hl, hlh] at e2
  have n0 : ¬ (n : Int) = 0 := by omega
  have n00 : ((n : Int) == 0) = false := by simp; omega
  have n1 : ¬ n = 0 := by omega
  have HR := Lib.hid R
  have HN := Lib.hid hn
  have HW := Lib.hid hw
  have HLH := Lib.hid hlh
  clear ht hl B0 B1 z2 hn0 R hn hw hlh
  go_enter Try.func6, Try.ntmps6
  go_wp2
  have k_a0 := cell_regrown a0
  have k_S0 := smp_regrown S0
  have k_p0 := cell_regrown p0
  have k_p1 := cell_regrown p1
  have k_e1 := cell_regrown e1
  have k_e2 := cell_regrown e2
  refine wp_region_quiet_below (by kernel_rfl) (by kernel_rfl) ?_
  repeat (first | (go_big_quiet_want; refine quiet_sload _ _ rfl smpT (fun W hW => smp_class S0 hW) rfl ?_; go_simp; go_big_quiet_on) | (go_big_quiet_want; refine quiet_bload _ _ rfl bordT (fun W hW => smp_class S0 hW) rfl ?_; go_simp; go_big_quiet_on) | go_big_quiet_step ((first | fail)) | quiet_step ((first | fail)))
  refine wpQuiet_nil ?_
  intro W hw'
  have B := below_regrown' hw'
  clear hw' k_a0 k_S0 k_p0 k_p1 k_e1 k_e2
  replace BB := bon BB B
  replace a0 := cell_below B a0
  replace S0 := smp_below B S0
  replace p0 := cell_below B p0
  replace p1 := cell_below B p1
  replace J1 := RdI.on J1 B
  replace e1 := cell_below B e1
  replace e2 := cell_below B e2
  clear e1 e2
  have hH : lh = 1 ∨ lh = 2 ∨ lh = 4 ∨ lh = 8 ∨ (lh ≠ 1 ∧ lh ≠ 2 ∧ lh ≠ 4 ∧ lh ≠ 8) := by omega
  have hA : a < -99 ∨ (¬ a < -99 ∧ 99 < a) ∨ (¬ a < -99 ∧ ¬ 99 < a ∧ b < -99) ∨ (¬ a < -99 ∧ ¬ 99 < a ∧ ¬ b < -99 ∧ 99 < b) ∨ (¬ a < -99 ∧ ¬ 99 < a ∧ ¬ b < -99 ∧ ¬ 99 < b) := by omega
  rcases hH with rfl | rfl | rfl | rfl | ⟨h1, h2, h4, h8⟩
  · rcases hA with k1 | ⟨k1, k2⟩ | ⟨k1, k2, k3⟩ | ⟨k1, k2, k3, k4⟩ | ⟨k1, k2, k3, k4⟩
    · have d1 : decide (a < -99) = true := decide_eq_true k1
      go_wp2_with (first | (go_at_call 14; (with_reducible refine (CE.out _).mono ?_); rintro _ V3 ⟨rfl, B⟩; replace BB := bon BB B; clear B))
      go_ret
      exact ⟨rfl, BB⟩
    · have d1 : decide (a < -99) = false := decide_eq_false k1
      have d2 : decide (99 < a) = true := decide_eq_true k2
      go_wp2_with (first | (go_at_call 14; (with_reducible refine (CE.out _).mono ?_); rintro _ V3 ⟨rfl, B⟩; replace BB := bon BB B; clear B))
      go_ret
      exact ⟨rfl, BB⟩
    · have d1 : decide (a < -99) = false := decide_eq_false k1
      have d2 : decide (99 < a) = false := decide_eq_false k2
      have d3 : decide (b < -99) = true := decide_eq_true k3
      go_wp2_with (first | (go_at_call 14; (with_reducible refine (CE.out _).mono ?_); rintro _ V3 ⟨rfl, B⟩; replace BB := bon BB B; clear B))
      go_ret
      exact ⟨rfl, BB⟩
    · have d1 : decide (a < -99) = false := decide_eq_false k1
      have d2 : decide (99 < a) = false := decide_eq_false k2
      have d3 : decide (b < -99) = false := decide_eq_false k3
      have d4 : decide (99 < b) = true := decide_eq_true k4
      go_wp2_with (first | (go_at_call 14; (with_reducible refine (CE.out _).mono ?_); rintro _ V3 ⟨rfl, B⟩; replace BB := bon BB B; clear B))
      go_ret
      exact ⟨rfl, BB⟩
    · have d1 : decide (a < -99) = false := decide_eq_false k1
      have d2 : decide (99 < a) = false := decide_eq_false k2
      have d3 : decide (b < -99) = false := decide_eq_false k3
      have d4 : decide (99 < b) = false := decide_eq_false k4
      have L := fun i (hi : i < 4) => grid_lin (ts := ts) (s := s) (a := a) (b := b) (qw := 4096) (qh := 32768) i hi (by omega) (by omega) (.inr (.inr (.inr ⟨rfl, HW.out⟩))) (.inl ⟨rfl, HLH.out⟩)
      have c5 := fun W R => stexel_b (some ⟨bb, off, none⟩) n c ts s a b 0 W R HN.out
      have c6 := fun W R => sslv_b (some ⟨bb, off, none⟩) n c ts s ((2 * a + 1) * 4096) ((2 * b + 1) * 32768) 0 2 W R HN.out
      have c7 := fun W R => sslv_b (some ⟨bb, off, none⟩) n c ts s ((2 * a + 1) * 4096) ((2 * b + 1) * 32768) 0 1 W R HN.out
      unfold GivesV at c5 c6 c7
      simp only [(L 0 (by omega)).1, (L 1 (by omega)).1, (L 2 (by omega)).1, (L 3 (by omega)).1] at c6
      simp only [(L 0 (by omega)).2, (L 1 (by omega)).2, (L 2 (by omega)).2, (L 3 (by omega)).2] at c7
      obtain ⟨r, hr⟩ : ∃ r, stx ts s a b 0 = r := ⟨_, rfl⟩
      rw [hr] at c5
      simp only [hr] at c6 c7
      have C5 := Lib.hid c5
      have C6 := Lib.hid c6
      have C7 := Lib.hid c7
      have g1 : IntKind.i64.wrap (2 * a) = 2 * a := IntWalk.i64_in _ (by omega)
      have g2 : IntKind.i64.wrap (2 * a + 1) = 2 * a + 1 := IntWalk.i64_in _ (by omega)
      have g3 : IntKind.i64.wrap ((2 * a + 1) * 4096) = (2 * a + 1) * 4096 := IntWalk.i64_in _ (by omega)
      have g4 : IntKind.i64.wrap (2 * b) = 2 * b := IntWalk.i64_in _ (by omega)
      have g5 : IntKind.i64.wrap (2 * b + 1) = 2 * b + 1 := IntWalk.i64_in _ (by omega)
      have g6 : IntKind.i64.wrap ((2 * b + 1) * 32768) = (2 * b + 1) * 32768 := IntWalk.i64_in _ (by omega)
      clear L c5 c6 c7 hr HW HLH HN HR
      go_wp2
      have k_a0 := cell_regrown a0
      have k_S0 := smp_regrown S0
      have k_p0 := cell_regrown p0
      have k_p1 := cell_regrown p1
      refine wp_region_quiet_below (by kernel_rfl) (by kernel_rfl) ?_
      repeat (first | (go_big_quiet_want; refine quiet_sload _ _ rfl smpT (fun W hW => smp_class S0 hW) rfl ?_; go_simp; go_big_quiet_on) | (go_big_quiet_want; refine quiet_bload _ _ rfl bordT (fun W hW => smp_class S0 hW) rfl ?_; go_simp; go_big_quiet_on) | go_big_quiet_step ((first | fail)) | quiet_step ((first | fail)))
      refine wpQuiet_nil ?_
      intro W hw'
      have B := below_regrown' hw'
      clear hw' k_a0 k_S0 k_p0 k_p1
      replace BB := bon BB B
      replace a0 := cell_below B a0
      replace S0 := smp_below B S0
      replace p0 := cell_below B p0
      replace p1 := cell_below B p1
      replace J1 := RdI.on J1 B
      go_wp2_with (first | ((with_reducible refine sloadG8 smpT S0 ?_ ?_); focus rfl) | (go_at_call 18; (with_reducible refine (C5.out _ J1).mono ?_); rintro _ V1 ⟨rfl, B⟩; (replace BB := bon BB B; replace a0 := cell_below B a0; replace S0 := smp_below B S0; replace p0 := cell_below B p0; replace p1 := cell_below B p1; replace J1 := RdI.on J1 B); clear B) | ((with_reducible refine storeG8 ?_); refine wpList_vset rfl _ _ _ rfl _ _ _ _ rfl rfl (VBox.made _ 0 0 0 0 _) (by kernel_rfl) ?_; intro V2 B2 D3 hD hz))
      have B : Below V1.heap.size V1 V2 := (box_below V1 _ _).trans B2
      (replace BB := bon BB B; replace a0 := cell_below B a0; replace S0 := smp_below B S0; replace p0 := cell_below B p0; replace p1 := cell_below B p1; replace J1 := RdI.on J1 B)
      have V0 := D3.1
      clear B B2 D3 hD hz
      go_simp
      have k_a0 := cell_regrown a0
      have k_S0 := smp_regrown S0
      have k_p0 := cell_regrown p0
      have k_p1 := cell_regrown p1
      refine wp_region_quiet_below (by kernel_rfl) (by kernel_rfl) ?_
      repeat (first | (go_big_quiet_want; refine quiet_vload _ _ rfl vecT (fun W hW => VecAt.on V0 (below_regrown' hW)) rfl ?_; go_simp; go_big_quiet_on) | (go_big_quiet_want; refine quiet_sload _ _ rfl smpT (fun W hW => smp_class S0 hW) rfl ?_; go_simp; go_big_quiet_on) | (go_big_quiet_want; refine quiet_bload _ _ rfl bordT (fun W hW => smp_class S0 hW) rfl ?_; go_simp; go_big_quiet_on) | go_big_quiet_step ((first | (go_at_call 17; with_reducible exact Calls.regrown_of (C6.out _ (J1.on (below_regrown _ _ _)))) | (go_at_call 17; with_reducible exact Calls.regrown_of (C7.out _ (J1.on (below_regrown _ _ _)))) | (go_at_call 14; with_reducible exact Calls.regrown_of (CE.out _)))) | quiet_step ((first | (go_at_call 17; with_reducible exact Calls.regrown_of (C6.out _ (J1.on (below_regrown _ _ _)))) | (go_at_call 17; with_reducible exact Calls.regrown_of (C7.out _ (J1.on (below_regrown _ _ _)))) | (go_at_call 14; with_reducible exact Calls.regrown_of (CE.out _)))))
      refine wpQuiet_nil ?_
      intro W hw'
      have B := below_regrown' hw'
      clear hw' k_a0 k_S0 k_p0 k_p1
      replace BB := bon BB B
      replace a0 := cell_below B a0
      replace S0 := smp_below B S0
      replace p0 := cell_below B p0
      replace p1 := cell_below B p1
      replace J1 := RdI.on J1 B
      replace V0 := VecAt.on V0 B
      go_wp2
      go_ret
      exact ⟨rfl, BB⟩
  · rcases hA with k1 | ⟨k1, k2⟩ | ⟨k1, k2, k3⟩ | ⟨k1, k2, k3, k4⟩ | ⟨k1, k2, k3, k4⟩
    · have d1 : decide (a < -99) = true := decide_eq_true k1
      go_wp2_with (first | (go_at_call 14; (with_reducible refine (CE.out _).mono ?_); rintro _ V3 ⟨rfl, B⟩; replace BB := bon BB B; clear B))
      go_ret
      exact ⟨rfl, BB⟩
    · have d1 : decide (a < -99) = false := decide_eq_false k1
      have d2 : decide (99 < a) = true := decide_eq_true k2
      go_wp2_with (first | (go_at_call 14; (with_reducible refine (CE.out _).mono ?_); rintro _ V3 ⟨rfl, B⟩; replace BB := bon BB B; clear B))
      go_ret
      exact ⟨rfl, BB⟩
    · have d1 : decide (a < -99) = false := decide_eq_false k1
      have d2 : decide (99 < a) = false := decide_eq_false k2
      have d3 : decide (b < -99) = true := decide_eq_true k3
      go_wp2_with (first | (go_at_call 14; (with_reducible refine (CE.out _).mono ?_); rintro _ V3 ⟨rfl, B⟩; replace BB := bon BB B; clear B))
      go_ret
      exact ⟨rfl, BB⟩
    · have d1 : decide (a < -99) = false := decide_eq_false k1
      have d2 : decide (99 < a) = false := decide_eq_false k2
      have d3 : decide (b < -99) = false := decide_eq_false k3
      have d4 : decide (99 < b) = true := decide_eq_true k4
      go_wp2_with (first | (go_at_call 14; (with_reducible refine (CE.out _).mono ?_); rintro _ V3 ⟨rfl, B⟩; replace BB := bon BB B; clear B))
      go_ret
      exact ⟨rfl, BB⟩
    · have d1 : decide (a < -99) = false := decide_eq_false k1
      have d2 : decide (99 < a) = false := decide_eq_false k2
      have d3 : decide (b < -99) = false := decide_eq_false k3
      have d4 : decide (99 < b) = false := decide_eq_false k4
      have L := fun i (hi : i < 4) => grid_lin (ts := ts) (s := s) (a := a) (b := b) (qw := 4096) (qh := 16384) i hi (by omega) (by omega) (.inr (.inr (.inr ⟨rfl, HW.out⟩))) (.inr (.inl ⟨rfl, HLH.out⟩))
      have c5 := fun W R => stexel_b (some ⟨bb, off, none⟩) n c ts s a b 0 W R HN.out
      have c6 := fun W R => sslv_b (some ⟨bb, off, none⟩) n c ts s ((2 * a + 1) * 4096) ((2 * b + 1) * 16384) 0 2 W R HN.out
      have c7 := fun W R => sslv_b (some ⟨bb, off, none⟩) n c ts s ((2 * a + 1) * 4096) ((2 * b + 1) * 16384) 0 1 W R HN.out
      unfold GivesV at c5 c6 c7
      simp only [(L 0 (by omega)).1, (L 1 (by omega)).1, (L 2 (by omega)).1, (L 3 (by omega)).1] at c6
      simp only [(L 0 (by omega)).2, (L 1 (by omega)).2, (L 2 (by omega)).2, (L 3 (by omega)).2] at c7
      obtain ⟨r, hr⟩ : ∃ r, stx ts s a b 0 = r := ⟨_, rfl⟩
      rw [hr] at c5
      simp only [hr] at c6 c7
      have C5 := Lib.hid c5
      have C6 := Lib.hid c6
      have C7 := Lib.hid c7
      have g1 : IntKind.i64.wrap (2 * a) = 2 * a := IntWalk.i64_in _ (by omega)
      have g2 : IntKind.i64.wrap (2 * a + 1) = 2 * a + 1 := IntWalk.i64_in _ (by omega)
      have g3 : IntKind.i64.wrap ((2 * a + 1) * 4096) = (2 * a + 1) * 4096 := IntWalk.i64_in _ (by omega)
      have g4 : IntKind.i64.wrap (2 * b) = 2 * b := IntWalk.i64_in _ (by omega)
      have g5 : IntKind.i64.wrap (2 * b + 1) = 2 * b + 1 := IntWalk.i64_in _ (by omega)
      have g6 : IntKind.i64.wrap ((2 * b + 1) * 16384) = (2 * b + 1) * 16384 := IntWalk.i64_in _ (by omega)
      clear L c5 c6 c7 hr HW HLH HN HR
      go_wp2
      have k_a0 := cell_regrown a0
      have k_S0 := smp_regrown S0
      have k_p0 := cell_regrown p0
      have k_p1 := cell_regrown p1
      refine wp_region_quiet_below (by kernel_rfl) (by kernel_rfl) ?_
      repeat (first | (go_big_quiet_want; refine quiet_sload _ _ rfl smpT (fun W hW => smp_class S0 hW) rfl ?_; go_simp; go_big_quiet_on) | (go_big_quiet_want; refine quiet_bload _ _ rfl bordT (fun W hW => smp_class S0 hW) rfl ?_; go_simp; go_big_quiet_on) | go_big_quiet_step ((first | fail)) | quiet_step ((first | fail)))
      refine wpQuiet_nil ?_
      intro W hw'
      have B := below_regrown' hw'
      clear hw' k_a0 k_S0 k_p0 k_p1
      replace BB := bon BB B
      replace a0 := cell_below B a0
      replace S0 := smp_below B S0
      replace p0 := cell_below B p0
      replace p1 := cell_below B p1
      replace J1 := RdI.on J1 B
      go_wp2_with (first | ((with_reducible refine sloadG8 smpT S0 ?_ ?_); focus rfl) | (go_at_call 18; (with_reducible refine (C5.out _ J1).mono ?_); rintro _ V1 ⟨rfl, B⟩; (replace BB := bon BB B; replace a0 := cell_below B a0; replace S0 := smp_below B S0; replace p0 := cell_below B p0; replace p1 := cell_below B p1; replace J1 := RdI.on J1 B); clear B) | ((with_reducible refine storeG8 ?_); refine wpList_vset rfl _ _ _ rfl _ _ _ _ rfl rfl (VBox.made _ 0 0 0 0 _) (by kernel_rfl) ?_; intro V2 B2 D3 hD hz))
      have B : Below V1.heap.size V1 V2 := (box_below V1 _ _).trans B2
      (replace BB := bon BB B; replace a0 := cell_below B a0; replace S0 := smp_below B S0; replace p0 := cell_below B p0; replace p1 := cell_below B p1; replace J1 := RdI.on J1 B)
      have V0 := D3.1
      clear B B2 D3 hD hz
      go_simp
      have k_a0 := cell_regrown a0
      have k_S0 := smp_regrown S0
      have k_p0 := cell_regrown p0
      have k_p1 := cell_regrown p1
      refine wp_region_quiet_below (by kernel_rfl) (by kernel_rfl) ?_
      repeat (first | (go_big_quiet_want; refine quiet_vload _ _ rfl vecT (fun W hW => VecAt.on V0 (below_regrown' hW)) rfl ?_; go_simp; go_big_quiet_on) | (go_big_quiet_want; refine quiet_sload _ _ rfl smpT (fun W hW => smp_class S0 hW) rfl ?_; go_simp; go_big_quiet_on) | (go_big_quiet_want; refine quiet_bload _ _ rfl bordT (fun W hW => smp_class S0 hW) rfl ?_; go_simp; go_big_quiet_on) | go_big_quiet_step ((first | (go_at_call 17; with_reducible exact Calls.regrown_of (C6.out _ (J1.on (below_regrown _ _ _)))) | (go_at_call 17; with_reducible exact Calls.regrown_of (C7.out _ (J1.on (below_regrown _ _ _)))) | (go_at_call 14; with_reducible exact Calls.regrown_of (CE.out _)))) | quiet_step ((first | (go_at_call 17; with_reducible exact Calls.regrown_of (C6.out _ (J1.on (below_regrown _ _ _)))) | (go_at_call 17; with_reducible exact Calls.regrown_of (C7.out _ (J1.on (below_regrown _ _ _)))) | (go_at_call 14; with_reducible exact Calls.regrown_of (CE.out _)))))
      refine wpQuiet_nil ?_
      intro W hw'
      have B := below_regrown' hw'
      clear hw' k_a0 k_S0 k_p0 k_p1
      replace BB := bon BB B
      replace a0 := cell_below B a0
      replace S0 := smp_below B S0
      replace p0 := cell_below B p0
      replace p1 := cell_below B p1
      replace J1 := RdI.on J1 B
      replace V0 := VecAt.on V0 B
      go_wp2
      go_ret
      exact ⟨rfl, BB⟩
  · rcases hA with k1 | ⟨k1, k2⟩ | ⟨k1, k2, k3⟩ | ⟨k1, k2, k3, k4⟩ | ⟨k1, k2, k3, k4⟩
    · have d1 : decide (a < -99) = true := decide_eq_true k1
      go_wp2_with (first | (go_at_call 14; (with_reducible refine (CE.out _).mono ?_); rintro _ V3 ⟨rfl, B⟩; replace BB := bon BB B; clear B))
      go_ret
      exact ⟨rfl, BB⟩
    · have d1 : decide (a < -99) = false := decide_eq_false k1
      have d2 : decide (99 < a) = true := decide_eq_true k2
      go_wp2_with (first | (go_at_call 14; (with_reducible refine (CE.out _).mono ?_); rintro _ V3 ⟨rfl, B⟩; replace BB := bon BB B; clear B))
      go_ret
      exact ⟨rfl, BB⟩
    · have d1 : decide (a < -99) = false := decide_eq_false k1
      have d2 : decide (99 < a) = false := decide_eq_false k2
      have d3 : decide (b < -99) = true := decide_eq_true k3
      go_wp2_with (first | (go_at_call 14; (with_reducible refine (CE.out _).mono ?_); rintro _ V3 ⟨rfl, B⟩; replace BB := bon BB B; clear B))
      go_ret
      exact ⟨rfl, BB⟩
    · have d1 : decide (a < -99) = false := decide_eq_false k1
      have d2 : decide (99 < a) = false := decide_eq_false k2
      have d3 : decide (b < -99) = false := decide_eq_false k3
      have d4 : decide (99 < b) = true := decide_eq_true k4
      go_wp2_with (first | (go_at_call 14; (with_reducible refine (CE.out _).mono ?_); rintro _ V3 ⟨rfl, B⟩; replace BB := bon BB B; clear B))
      go_ret
      exact ⟨rfl, BB⟩
    · have d1 : decide (a < -99) = false := decide_eq_false k1
      have d2 : decide (99 < a) = false := decide_eq_false k2
      have d3 : decide (b < -99) = false := decide_eq_false k3
      have d4 : decide (99 < b) = false := decide_eq_false k4
      have L := fun i (hi : i < 4) => grid_lin (ts := ts) (s := s) (a := a) (b := b) (qw := 4096) (qh := 8192) i hi (by omega) (by omega) (.inr (.inr (.inr ⟨rfl, HW.out⟩))) (.inr (.inr (.inl ⟨rfl, HLH.out⟩)))
      have c5 := fun W R => stexel_b (some ⟨bb, off, none⟩) n c ts s a b 0 W R HN.out
      have c6 := fun W R => sslv_b (some ⟨bb, off, none⟩) n c ts s ((2 * a + 1) * 4096) ((2 * b + 1) * 8192) 0 2 W R HN.out
      have c7 := fun W R => sslv_b (some ⟨bb, off, none⟩) n c ts s ((2 * a + 1) * 4096) ((2 * b + 1) * 8192) 0 1 W R HN.out
      unfold GivesV at c5 c6 c7
      simp only [(L 0 (by omega)).1, (L 1 (by omega)).1, (L 2 (by omega)).1, (L 3 (by omega)).1] at c6
      simp only [(L 0 (by omega)).2, (L 1 (by omega)).2, (L 2 (by omega)).2, (L 3 (by omega)).2] at c7
      obtain ⟨r, hr⟩ : ∃ r, stx ts s a b 0 = r := ⟨_, rfl⟩
      rw [hr] at c5
      simp only [hr] at c6 c7
      have C5 := Lib.hid c5
      have C6 := Lib.hid c6
      have C7 := Lib.hid c7
      have g1 : IntKind.i64.wrap (2 * a) = 2 * a := IntWalk.i64_in _ (by omega)
      have g2 : IntKind.i64.wrap (2 * a + 1) = 2 * a + 1 := IntWalk.i64_in _ (by omega)
      have g3 : IntKind.i64.wrap ((2 * a + 1) * 4096) = (2 * a + 1) * 4096 := IntWalk.i64_in _ (by omega)
      have g4 : IntKind.i64.wrap (2 * b) = 2 * b := IntWalk.i64_in _ (by omega)
      have g5 : IntKind.i64.wrap (2 * b + 1) = 2 * b + 1 := IntWalk.i64_in _ (by omega)
      have g6 : IntKind.i64.wrap ((2 * b + 1) * 8192) = (2 * b + 1) * 8192 := IntWalk.i64_in _ (by omega)
      clear L c5 c6 c7 hr HW HLH HN HR
      go_wp2
      have k_a0 := cell_regrown a0
      have k_S0 := smp_regrown S0
      have k_p0 := cell_regrown p0
      have k_p1 := cell_regrown p1
      refine wp_region_quiet_below (by kernel_rfl) (by kernel_rfl) ?_
      repeat (first | (go_big_quiet_want; refine quiet_sload _ _ rfl smpT (fun W hW => smp_class S0 hW) rfl ?_; go_simp; go_big_quiet_on) | (go_big_quiet_want; refine quiet_bload _ _ rfl bordT (fun W hW => smp_class S0 hW) rfl ?_; go_simp; go_big_quiet_on) | go_big_quiet_step ((first | fail)) | quiet_step ((first | fail)))
      refine wpQuiet_nil ?_
      intro W hw'
      have B := below_regrown' hw'
      clear hw' k_a0 k_S0 k_p0 k_p1
      replace BB := bon BB B
      replace a0 := cell_below B a0
      replace S0 := smp_below B S0
      replace p0 := cell_below B p0
      replace p1 := cell_below B p1
      replace J1 := RdI.on J1 B
      go_wp2_with (first | ((with_reducible refine sloadG8 smpT S0 ?_ ?_); focus rfl) | (go_at_call 18; (with_reducible refine (C5.out _ J1).mono ?_); rintro _ V1 ⟨rfl, B⟩; (replace BB := bon BB B; replace a0 := cell_below B a0; replace S0 := smp_below B S0; replace p0 := cell_below B p0; replace p1 := cell_below B p1; replace J1 := RdI.on J1 B); clear B) | ((with_reducible refine storeG8 ?_); refine wpList_vset rfl _ _ _ rfl _ _ _ _ rfl rfl (VBox.made _ 0 0 0 0 _) (by kernel_rfl) ?_; intro V2 B2 D3 hD hz))
      have B : Below V1.heap.size V1 V2 := (box_below V1 _ _).trans B2
      (replace BB := bon BB B; replace a0 := cell_below B a0; replace S0 := smp_below B S0; replace p0 := cell_below B p0; replace p1 := cell_below B p1; replace J1 := RdI.on J1 B)
      have V0 := D3.1
      clear B B2 D3 hD hz
      go_simp
      have k_a0 := cell_regrown a0
      have k_S0 := smp_regrown S0
      have k_p0 := cell_regrown p0
      have k_p1 := cell_regrown p1
      refine wp_region_quiet_below (by kernel_rfl) (by kernel_rfl) ?_
      repeat (first | (go_big_quiet_want; refine quiet_vload _ _ rfl vecT (fun W hW => VecAt.on V0 (below_regrown' hW)) rfl ?_; go_simp; go_big_quiet_on) | (go_big_quiet_want; refine quiet_sload _ _ rfl smpT (fun W hW => smp_class S0 hW) rfl ?_; go_simp; go_big_quiet_on) | (go_big_quiet_want; refine quiet_bload _ _ rfl bordT (fun W hW => smp_class S0 hW) rfl ?_; go_simp; go_big_quiet_on) | go_big_quiet_step ((first | (go_at_call 17; with_reducible exact Calls.regrown_of (C6.out _ (J1.on (below_regrown _ _ _)))) | (go_at_call 17; with_reducible exact Calls.regrown_of (C7.out _ (J1.on (below_regrown _ _ _)))) | (go_at_call 14; with_reducible exact Calls.regrown_of (CE.out _)))) | quiet_step ((first | (go_at_call 17; with_reducible exact Calls.regrown_of (C6.out _ (J1.on (below_regrown _ _ _)))) | (go_at_call 17; with_reducible exact Calls.regrown_of (C7.out _ (J1.on (below_regrown _ _ _)))) | (go_at_call 14; with_reducible exact Calls.regrown_of (CE.out _)))))
      refine wpQuiet_nil ?_
      intro W hw'
      have B := below_regrown' hw'
      clear hw' k_a0 k_S0 k_p0 k_p1
      replace BB := bon BB B
      replace a0 := cell_below B a0
      replace S0 := smp_below B S0
      replace p0 := cell_below B p0
      replace p1 := cell_below B p1
      replace J1 := RdI.on J1 B
      replace V0 := VecAt.on V0 B
      go_wp2
      go_ret
      exact ⟨rfl, BB⟩
  · rcases hA with k1 | ⟨k1, k2⟩ | ⟨k1, k2, k3⟩ | ⟨k1, k2, k3, k4⟩ | ⟨k1, k2, k3, k4⟩
    · have d1 : decide (a < -99) = true := decide_eq_true k1
      go_wp2_with (first | (go_at_call 14; (with_reducible refine (CE.out _).mono ?_); rintro _ V3 ⟨rfl, B⟩; replace BB := bon BB B; clear B))
      go_ret
      exact ⟨rfl, BB⟩
    · have d1 : decide (a < -99) = false := decide_eq_false k1
      have d2 : decide (99 < a) = true := decide_eq_true k2
      go_wp2_with (first | (go_at_call 14; (with_reducible refine (CE.out _).mono ?_); rintro _ V3 ⟨rfl, B⟩; replace BB := bon BB B; clear B))
      go_ret
      exact ⟨rfl, BB⟩
    · have d1 : decide (a < -99) = false := decide_eq_false k1
      have d2 : decide (99 < a) = false := decide_eq_false k2
      have d3 : decide (b < -99) = true := decide_eq_true k3
      go_wp2_with (first | (go_at_call 14; (with_reducible refine (CE.out _).mono ?_); rintro _ V3 ⟨rfl, B⟩; replace BB := bon BB B; clear B))
      go_ret
      exact ⟨rfl, BB⟩
    · have d1 : decide (a < -99) = false := decide_eq_false k1
      have d2 : decide (99 < a) = false := decide_eq_false k2
      have d3 : decide (b < -99) = false := decide_eq_false k3
      have d4 : decide (99 < b) = true := decide_eq_true k4
      go_wp2_with (first | (go_at_call 14; (with_reducible refine (CE.out _).mono ?_); rintro _ V3 ⟨rfl, B⟩; replace BB := bon BB B; clear B))
      go_ret
      exact ⟨rfl, BB⟩
    · have d1 : decide (a < -99) = false := decide_eq_false k1
      have d2 : decide (99 < a) = false := decide_eq_false k2
      have d3 : decide (b < -99) = false := decide_eq_false k3
      have d4 : decide (99 < b) = false := decide_eq_false k4
      have L := fun i (hi : i < 4) => grid_lin (ts := ts) (s := s) (a := a) (b := b) (qw := 4096) (qh := 4096) i hi (by omega) (by omega) (.inr (.inr (.inr ⟨rfl, HW.out⟩))) (.inr (.inr (.inr ⟨rfl, HLH.out⟩)))
      have c5 := fun W R => stexel_b (some ⟨bb, off, none⟩) n c ts s a b 0 W R HN.out
      have c6 := fun W R => sslv_b (some ⟨bb, off, none⟩) n c ts s ((2 * a + 1) * 4096) ((2 * b + 1) * 4096) 0 2 W R HN.out
      have c7 := fun W R => sslv_b (some ⟨bb, off, none⟩) n c ts s ((2 * a + 1) * 4096) ((2 * b + 1) * 4096) 0 1 W R HN.out
      unfold GivesV at c5 c6 c7
      simp only [(L 0 (by omega)).1, (L 1 (by omega)).1, (L 2 (by omega)).1, (L 3 (by omega)).1] at c6
      simp only [(L 0 (by omega)).2, (L 1 (by omega)).2, (L 2 (by omega)).2, (L 3 (by omega)).2] at c7
      obtain ⟨r, hr⟩ : ∃ r, stx ts s a b 0 = r := ⟨_, rfl⟩
      rw [hr] at c5
      simp only [hr] at c6 c7
      have C5 := Lib.hid c5
      have C6 := Lib.hid c6
      have C7 := Lib.hid c7
      have g1 : IntKind.i64.wrap (2 * a) = 2 * a := IntWalk.i64_in _ (by omega)
      have g2 : IntKind.i64.wrap (2 * a + 1) = 2 * a + 1 := IntWalk.i64_in _ (by omega)
      have g3 : IntKind.i64.wrap ((2 * a + 1) * 4096) = (2 * a + 1) * 4096 := IntWalk.i64_in _ (by omega)
      have g4 : IntKind.i64.wrap (2 * b) = 2 * b := IntWalk.i64_in _ (by omega)
      have g5 : IntKind.i64.wrap (2 * b + 1) = 2 * b + 1 := IntWalk.i64_in _ (by omega)
      have g6 : IntKind.i64.wrap ((2 * b + 1) * 4096) = (2 * b + 1) * 4096 := IntWalk.i64_in _ (by omega)
      clear L c5 c6 c7 hr HW HLH HN HR
      go_wp2
      have k_a0 := cell_regrown a0
      have k_S0 := smp_regrown S0
      have k_p0 := cell_regrown p0
      have k_p1 := cell_regrown p1
      refine wp_region_quiet_below (by kernel_rfl) (by kernel_rfl) ?_
      repeat (first | (go_big_quiet_want; refine quiet_sload _ _ rfl smpT (fun W hW => smp_class S0 hW) rfl ?_; go_simp; go_big_quiet_on) | (go_big_quiet_want; refine quiet_bload _ _ rfl bordT (fun W hW => smp_class S0 hW) rfl ?_; go_simp; go_big_quiet_on) | go_big_quiet_step ((first | fail)) | quiet_step ((first | fail)))
      refine wpQuiet_nil ?_
      intro W hw'
      have B := below_regrown' hw'
      clear hw' k_a0 k_S0 k_p0 k_p1
      replace BB := bon BB B
      replace a0 := cell_below B a0
      replace S0 := smp_below B S0
      replace p0 := cell_below B p0
      replace p1 := cell_below B p1
      replace J1 := RdI.on J1 B
      go_wp2_with (first | ((with_reducible refine sloadG8 smpT S0 ?_ ?_); focus rfl) | (go_at_call 18; (with_reducible refine (C5.out _ J1).mono ?_); rintro _ V1 ⟨rfl, B⟩; (replace BB := bon BB B; replace a0 := cell_below B a0; replace S0 := smp_below B S0; replace p0 := cell_below B p0; replace p1 := cell_below B p1; replace J1 := RdI.on J1 B); clear B) | ((with_reducible refine storeG8 ?_); refine wpList_vset rfl _ _ _ rfl _ _ _ _ rfl rfl (VBox.made _ 0 0 0 0 _) (by kernel_rfl) ?_; intro V2 B2 D3 hD hz))
      have B : Below V1.heap.size V1 V2 := (box_below V1 _ _).trans B2
      (replace BB := bon BB B; replace a0 := cell_below B a0; replace S0 := smp_below B S0; replace p0 := cell_below B p0; replace p1 := cell_below B p1; replace J1 := RdI.on J1 B)
      have V0 := D3.1
      clear B B2 D3 hD hz
      go_simp
      have k_a0 := cell_regrown a0
      have k_S0 := smp_regrown S0
      have k_p0 := cell_regrown p0
      have k_p1 := cell_regrown p1
      refine wp_region_quiet_below (by kernel_rfl) (by kernel_rfl) ?_
      repeat (first | (go_big_quiet_want; refine quiet_vload _ _ rfl vecT (fun W hW => VecAt.on V0 (below_regrown' hW)) rfl ?_; go_simp; go_big_quiet_on) | (go_big_quiet_want; refine quiet_sload _ _ rfl smpT (fun W hW => smp_class S0 hW) rfl ?_; go_simp; go_big_quiet_on) | (go_big_quiet_want; refine quiet_bload _ _ rfl bordT (fun W hW => smp_class S0 hW) rfl ?_; go_simp; go_big_quiet_on) | go_big_quiet_step ((first | (go_at_call 17; with_reducible exact Calls.regrown_of (C6.out _ (J1.on (below_regrown _ _ _)))) | (go_at_call 17; with_reducible exact Calls.regrown_of (C7.out _ (J1.on (below_regrown _ _ _)))) | (go_at_call 14; with_reducible exact Calls.regrown_of (CE.out _)))) | quiet_step ((first | (go_at_call 17; with_reducible exact Calls.regrown_of (C6.out _ (J1.on (below_regrown _ _ _)))) | (go_at_call 17; with_reducible exact Calls.regrown_of (C7.out _ (J1.on (below_regrown _ _ _)))) | (go_at_call 14; with_reducible exact Calls.regrown_of (CE.out _)))))
      refine wpQuiet_nil ?_
      intro W hw'
      have B := below_regrown' hw'
      clear hw' k_a0 k_S0 k_p0 k_p1
      replace BB := bon BB B
      replace a0 := cell_below B a0
      replace S0 := smp_below B S0
      replace p0 := cell_below B p0
      replace p1 := cell_below B p1
      replace J1 := RdI.on J1 B
      replace V0 := VecAt.on V0 B
      go_wp2
      go_ret
      exact ⟨rfl, BB⟩
  · have u1 : (lh == 1) = false := by simp [h1]
    have u2 : (lh == 2) = false := by simp [h2]
    have u4 : (lh == 4) = false := by simp [h4]
    have u8 : (lh == 8) = false := by simp [h8]
    go_wp2_with (first | (go_at_call 14; (with_reducible refine (CE.out _).mono ?_); rintro _ V3 ⟨rfl, B⟩; replace BB := bon BB B; clear B))
    go_ret
    exact ⟨rfl, BB⟩

end Go.Proofs.Ytoipmldbjciinaa
