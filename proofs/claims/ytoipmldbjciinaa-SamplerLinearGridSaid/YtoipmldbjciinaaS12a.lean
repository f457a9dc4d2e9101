/- The walk of SamplerLinearGrid, no level, other widths. Written by tools/gen/genS12.py. -/
import Derived.Test.YtoipmldbjciinaaS11
import Derived.Test.YtoipmldbjciinaaS5
import Derived.Test.YtoipmldbjciinaaPair
import Derived.Test.YtoipmldbjciinaaOpenS
namespace Go.Proofs.Ytoipmldbjciinaa
open Go.RowKit Go.Sort
set_option linter.unusedVariables false

section
variable {P : Program} {ops : Array Oper} {Q : Exit → Act → World → Prop} {rest : List Oper} {a : Act} {W : World} {b : Nat} {s : Nat → Int}

/-- A sampler loaded, something stored, as the operations are written out. -/
theorem sloadG0 {dst : Option Tmp} {ty t : TypeId} {x : Operand} {pos : String} {after : Array Edge} (T : RowT P t 12) (k : (∀ i, i < 12 → W.cell? ⟨b, i, none⟩ = some (.int .i64 (s i)))) (hx : a.eval x = .pointer (some ⟨b, 0, none⟩))
    (H : wpList P ops Q rest (a.put dst (.agg (smps s))) W) : wpList P ops Q ({ dst := dst, op := .load t x, type := ty, pos := pos, after := after, guard := none } :: rest) a W :=
  wpList_sload rfl t x rfl T k hx H
theorem storeG0 {dst : Option Tmp} {ty t : TypeId} {x y : Operand} {pos : String} {after : Array Edge}
    (H : wpList P ops Q ({ dst := dst, op := .store t x y, type := ty, pos := pos, after := after, guard := none } :: rest) a W) : wpList P ops Q ({ dst := dst, op := .store t x y, type := ty, pos := pos, after := after, guard := none } :: rest) a W := H
end

set_option maxRecDepth 100000 in
set_option maxHeartbeats 8000000 in
theorem grid_zero (A : Option Addr) (n c : Nat) (ts : List Tx) (s : Nat → Int) (a b : Int) (w : World) (R : RdI w w.heap.size A n ts) (hn : n ≤ 9223372036854775807) (h0 : n = 0) :
    Calls Try.prog 6 #[.agg #[.slice A n c], .agg (smps s), .agg #[.int .i64 a, .int .i64 b]] w fun e w' => e = .returned (.bool true) ∧ Below w.heap.size w w' := by
  obtain ⟨B0, a0, S0⟩ := args_ts w A n c s 41 27
  have B1 := box_below ((w.alloc (.cells #[.slice A n c] 41)).alloc (.cells (smps s) 27)) #[.int .i64 a, .int .i64 b] 28
  have P0 := (P2Box.made ((w.alloc (.cells #[.slice A n c] 41)).alloc (.cells (smps s) 27)) a b 28).1
  have z2 : ((w.alloc (.cells #[.slice A n c] 41)).alloc (.cells (smps s) 27)).heap.size = w.heap.size + 2 := by simp
  rw [z2] at P0
  replace a0 := cell_below B1 a0
  replace S0 := smp_below B1 S0
  have BB := bon B0 B1
  have J1 := R.on BB
  have CE := Lib.hid (fun W => sexample_b W)
  obtain ⟨p0, p1⟩ := P0
  have hl := R.len
  have he : slv ts s 0 0 0 2 = fun _ => 0 := by
    funext i
    exact slv_no (fun h => by have := h.1.2; omega) i
  have c1 := fun W R => sslv_b A n c ts s 0 0 0 2 W R hn
  rw [he] at c1
  unfold GivesV at c1
  have C1 := Lib.hid c1
  subst h0
  clear c1 he hl B0 B1 z2 R hn
  go_enter Try.func6, Try.ntmps6
  go_wp2_with (first | ((with_reducible refine sloadG0 smpT S0 ?_ ?_); focus rfl) | (go_at_call 17; (with_reducible refine (C1.out _ J1).mono ?_); rintro _ V1 ⟨rfl, B⟩; (replace BB := bon BB B; replace a0 := cell_below B a0; replace S0 := smp_below B S0; replace p0 := cell_below B p0; replace p1 := cell_below B p1; replace J1 := RdI.on J1 B); clear B) | (go_at_call 14; (with_reducible refine (CE.out _).mono ?_); rintro _ V3 ⟨rfl, B⟩; replace BB := bon BB B; clear B))
  go_ret
  exact ⟨rfl, BB⟩

set_option maxRecDepth 100000 in
set_option maxHeartbeats 8000000 in
theorem grid_no (A : Option Addr) (n c : Nat) (ts : List Tx) (s : Nat → Int) (a b : Int) (w : World) (R : RdI w w.heap.size A n ts) (hn : n ≤ 9223372036854775807) (hn0 : 0 < n) (lw : Int) (hw : (lvl ts 0).w = lw) (m1 : lw ≠ 1) (m2 : lw ≠ 2) (m4 : lw ≠ 4) (m8 : lw ≠ 8) :
    Calls Try.prog 6 #[.agg #[.slice A n c], .agg (smps s), .agg #[.int .i64 a, .int .i64 b]] w fun e w' => e = .returned (.bool true) ∧ Below w.heap.size w w' := by
  obtain ⟨B0, a0, S0⟩ := args_ts w A n c s 41 27
  have B1 := box_below ((w.alloc (.cells #[.slice A n c] 41)).alloc (.cells (smps s) 27)) #[.int .i64 a, .int .i64 b] 28
  have P0 := (P2Box.made ((w.alloc (.cells #[.slice A n c] 41)).alloc (.cells (smps s) 27)) a b 28).1
  have z2 : ((w.alloc (.cells #[.slice A n c] 41)).alloc (.cells (smps s) 27)).heap.size = w.heap.size + 2 := by simp
  rw [z2] at P0
  replace a0 := cell_below B1 a0
  replace S0 := smp_below B1 S0
  have BB := bon B0 B1
  have J1 := R.on BB
  have CE := Lib.hid (fun W => sexample_b W)
  obtain ⟨p0, p1⟩ := P0
  obtain ⟨bb, off, t, rfl, _, TA, _, ht⟩ := J1.at_ hn0
  obtain ⟨_, e1, e2, _⟩ := TA
  simp only [Nat.zero_mul, Nat.add_zero] at e1 e2
  have hl : lvl ts 0 = t.m := by unfold lvl; simp [List.getD, ht]
  obtain ⟨lh, hlh⟩ : ∃ x, (lvl ts 0).h = x := ⟨_, rfl⟩
  rw [← hl, hw] at e1
  rw [← hl, hlh] at e2
  have n0 : ¬ (n : Int) = 0 := by omega
  have n00 : ((n : Int) == 0) = false := by simp; omega
  have n1 : ¬ n = 0 := by omega
  have u1 : (lw == 1) = false := by simp [m1]
  have u2 : (lw == 2) = false := by simp [m2]
  have u4 : (lw == 4) = false := by simp [m4]
  have u8 : (lw == 8) = false := by simp [m8]
  clear ht hl B0 B1 z2 hn0 R hn hw hlh
  go_enter Try.func6, Try.ntmps6
  go_wp2
  have k_a0 := cell_regrown a0
  have k_S0 := smp_regrown S0
  have k_p0 := cell_regrown p0
  have k_p1 := cell_regrown p1
  have k_e1 := cell_regrown e1
  have k_e2 := cell_regrown e2
  refine wp_region_quiet_below (by kernel_rfl) (by kernel_rfl) ?_
  repeat (first | (go_big_quiet_want; refine quiet_sload _ _ rfl smpT (fun W hW => smp_class S0 hW) rfl ?_; go_simp; go_big_quiet_on) | (go_big_quiet_want; refine quiet_bload _ _ rfl bordT (fun W hW => smp_class S0 hW) rfl ?_; go_simp; go_big_quiet_on) | go_big_quiet_step ((first | fail)) | quiet_step ((first | fail)))
  refine wpQuiet_nil ?_
  intro W hw'
  have B := below_regrown' hw'
  clear hw' k_a0 k_S0 k_p0 k_p1 k_e1 k_e2
  replace BB := bon BB B
  replace a0 := cell_below B a0
  replace S0 := smp_below B S0
  replace p0 := cell_below B p0
  replace p1 := cell_below B p1
  replace J1 := RdI.on J1 B
  replace e1 := cell_below B e1
  replace e2 := cell_below B e2
  clear e1 e2
  go_wp2_with (first | (go_at_call 14; (with_reducible refine (CE.out _).mono ?_); rintro _ V3 ⟨rfl, B⟩; replace BB := bon BB B; clear B))
  go_ret
  exact ⟨rfl, BB⟩

end Go.Proofs.Ytoipmldbjciinaa
