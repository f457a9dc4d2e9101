/- The walk of SamplerNearest. Written by tools/gen/genS15.py. -/
import Derived.Test.YtoipmldbjciinaaS14
import Derived.Test.YtoipmldbjciinaaS5
import Derived.Test.YtoipmldbjciinaaOpenS
namespace Go.Proofs.Ytoipmldbjciinaa
open Go.RowKit Go.Sort
set_option linter.unusedVariables false

section
variable {P : Program} {ops : Array Oper} {Q : Exit → Act → World → Prop} {rest : List Oper} {a : Act} {W : World} {b : Nat} {s : Nat → Int}

/-- A sampler loaded, something stored, as the operations are written out. -/
theorem sloadN {dst : Option Tmp} {ty t : TypeId} {x : Operand} {pos : String} {after : Array Edge} (T : RowT P t 12) (k : (∀ i, i < 12 → W.cell? ⟨b, i, none⟩ = some (.int .i64 (s i)))) (hx : a.eval x = .pointer (some ⟨b, 0, none⟩))
    (H : wpList P ops Q rest (a.put dst (.agg (smps s))) W) : wpList P ops Q ({ dst := dst, op := .load t x, type := ty, pos := pos, after := after, guard := none } :: rest) a W :=
  wpList_sload rfl t x rfl T k hx H
theorem storeN {dst : Option Tmp} {ty t : TypeId} {x y : Operand} {pos : String} {after : Array Edge}
    (H : wpList P ops Q ({ dst := dst, op := .store t x y, type := ty, pos := pos, after := after, guard := none } :: rest) a W) : wpList P ops Q ({ dst := dst, op := .store t x y, type := ty, pos := pos, after := after, guard := none } :: rest) a W := H

/-- One number of a sampler stored. -/
theorem wpList_sset1 {o : Oper} {k : Nat} {v : Int} (hg : o.guard = none) (t : TypeId) (x y : Operand) (ho : o.op = .store t x y) (K : SBox W b s) (s' : Nat → Int) (hs1 : s' k = v) (hs2 : ∀ i, i ≠ k → s' i = s i)
    (hx : a.eval x = .pointer (some ⟨b, k, none⟩)) (hy : a.eval y = .int .i64 v) (hk : k < 12) (hi : (P.info? t).map (·.size) = some 1)
    (h : ∀ V, SBox V b s' → Below b W V → (∀ a : Addr, a.block ≠ b → V.cell? a = W.cell? a) → (∀ a : Addr, V.frozen? a = W.frozen? a) → wpList P ops Q rest (a.put o.dst undef) V) : wpList P ops Q (o :: rest) a W := by
  refine wpList_plain hg fun Z hZ => ?_
  have hs := run_storeCells_cells (P := P) b k [.int .i64 v] 0 W (fun j hj => by
    obtain rfl : j = 0 := by simpa using hj
    simp [K.1 k hk]) (fun j hj => by
    obtain rfl : j = 0 := by simpa using hj
    simpa using K.2 k) (by simp [Value.oneCell'])
  have hv : (storeVar t ⟨b, k, none⟩ (.int .i64 v)).run P W = .ok () (W.setCell ⟨b, k, none⟩ (.int .i64 v)) := by
    cases hq : P.info? t with
    | none => simp [hq] at hi
    | some i =>
      have hz : i.size = 1 := by simpa [hq] using hi
      simpa [storeVar, sizeOf, typeInfo, hq, Value.cells, hz, World.setCells] using hs
  unfold Oper.wp execOp
  simp only [ho, hx, hy, Instr.storeAt, Instr.sureAddr, Sem.run_bind, Sem.run_pure, Result.andThen_ok, hv]
  refine hZ _ _ (h _ ⟨fun i hi => ?_, fun i => ?_⟩ ((Below.refl b W).setCell (Nat.le_refl _) _) (fun a ha => ?_) (fun a => World.frozen?_setCell _ _ _ _))
  · by_cases e : i = k
    · subst e
      rw [hs1]
      exact World.cell?_setCell_same' _ _ _ (by simp [K.1 i hi])
    · rw [hs2 i e, World.cell?_setCell_other _ _ _ _ (by intro q; injection q with q1 q2; omega)]
      exact K.1 i hi
  · rw [World.frozen?_setCell]; exact K.2 i
  · rw [World.cell?_setCell_other _ _ _ _ (by intro e; rw [← e] at ha; exact ha rfl)]
end

set_option maxRecDepth 100000 in
set_option maxHeartbeats 8000000 in
theorem nearest_inv (A : Option Addr) (n c : Nat) (ts : List Tx) (s : Nat → Int) (u v k l : Int) (w : World) (R : RdI w w.heap.size A n ts) (hn : n ≤ 9223372036854775807) (h : ¬ SV s) :
    Calls Try.prog 5 #[.agg #[.slice A n c], .agg (smps s), .agg #[.int .i64 u, .int .i64 v, .int .i64 k, .int .i64 l]] w fun e w' => e = .returned (.bool true) ∧ Below w.heap.size w w' := by
  obtain ⟨B0, a0, S0⟩ := args_ts w A n c s 41 27
  obtain ⟨p0, p1, p2, p3, B1⟩ := box4 ((w.alloc (.cells #[.slice A n c] 41)).alloc (.cells (smps s) 27)) (.int .i64 u) (.int .i64 v) (.int .i64 k) (.int .i64 l) 38
  have z2 : ((w.alloc (.cells #[.slice A n c] 41)).alloc (.cells (smps s) 27)).heap.size = w.heap.size + 2 := by simp
  rw [z2] at p0 p1 p2 p3
  replace a0 := cell_below B1 a0
  replace S0 := smp_below B1 S0
  have BB := bon B0 B1
  have J1 := R.on BB
  have CE := Lib.hid (fun W => sexample_b W)
  have cv := fun W => sval_b s W
  have c1 := fun W R => sslv_b A n c ts s u v 0 1 W R hn
  rw [nearest_no (fun q => h q.2.1)] at c1
  rw [decide_eq_false h] at cv
  unfold GivesV at c1
  have C1 := Lib.hid c1
  have CV := Lib.hid cv
  clear c1 cv B0 B1 z2 R hn
  go_enter Try.func5, Try.ntmps5
  go_wp2_with (first | ((with_reducible refine sloadN smpT S0 ?_ ?_); focus rfl) | (go_at_call 17; (with_reducible refine (C1.out _ J1).mono ?_); rintro _ V1 ⟨rfl, B⟩; replace BB := bon BB B; replace a0 := cell_below B a0; replace S0 := smp_below B S0; replace J1 := RdI.on J1 B; clear B) | (go_at_call 15; (with_reducible refine (CV.out _).mono ?_); rintro _ V4 ⟨rfl, B⟩; replace BB := bon BB B; replace a0 := cell_below B a0; replace S0 := smp_below B S0; replace v0 := cell_below B v0; replace v1 := cell_below B v1; replace v2 := cell_below B v2; replace v3 := cell_below B v3; replace J1 := RdI.on J1 B; clear B) | (go_at_call 14; (with_reducible refine (CE.out _).mono ?_); rintro _ V3 ⟨rfl, B⟩; replace BB := bon BB B; replace a0 := cell_below B a0; replace S0 := smp_below B S0; replace v0 := cell_below B v0; replace v1 := cell_below B v1; replace v2 := cell_below B v2; replace v3 := cell_below B v3; replace J1 := RdI.on J1 B; clear B) | ((with_reducible refine storeN ?_); refine wpList_vset rfl _ _ _ rfl _ _ _ _ rfl rfl (VBox.made _ 0 0 0 0 _) (by kernel_rfl) ?_; intro V2 B2 D3 hD hz; have B : Below V1.heap.size V1 V2 := (box_below V1 _ _).trans B2; replace BB := bon BB B; replace a0 := cell_below B a0; replace S0 := smp_below B S0; replace J1 := RdI.on J1 B; obtain ⟨v0, v1, v2, v3⟩ := D3.1; clear B B2 D3 hD hz))
  go_ret
  exact ⟨rfl, BB⟩

set_option maxRecDepth 100000 in
set_option maxHeartbeats 8000000 in
theorem nearest_none (A : Option Addr) (n c : Nat) (ts : List Tx) (s : Nat → Int) (u v k l : Int) (w : World) (R : RdI w w.heap.size A n ts) (hn : n ≤ 9223372036854775807) (h : SV s) (h0 : n = 0) :
    Calls Try.prog 5 #[.agg #[.slice A n c], .agg (smps s), .agg #[.int .i64 u, .int .i64 v, .int .i64 k, .int .i64 l]] w fun e w' => e = .returned (.bool true) ∧ Below w.heap.size w w' := by
  obtain ⟨B0, a0, S0⟩ := args_ts w A n c s 41 27
  obtain ⟨p0, p1, p2, p3, B1⟩ := box4 ((w.alloc (.cells #[.slice A n c] 41)).alloc (.cells (smps s) 27)) (.int .i64 u) (.int .i64 v) (.int .i64 k) (.int .i64 l) 38
  have z2 : ((w.alloc (.cells #[.slice A n c] 41)).alloc (.cells (smps s) 27)).heap.size = w.heap.size + 2 := by simp
  rw [z2] at p0 p1 p2 p3
  replace a0 := cell_below B1 a0
  replace S0 := smp_below B1 S0
  have BB := bon B0 B1
  have J1 := R.on BB
  have CE := Lib.hid (fun W => sexample_b W)
  have cv := fun W => sval_b s W
  have c1 := fun W R => sslv_b A n c ts s u v 0 1 W R hn
  have hl := R.len
  rw [nearest_no (fun q => by have := q.1.2; omega)] at c1
  rw [decide_eq_true h] at cv
  unfold GivesV at c1
  have C1 := Lib.hid c1
  have CV := Lib.hid cv
  subst h0
  clear c1 cv B0 B1 z2 R hn hl
  go_enter Try.func5, Try.ntmps5
  go_wp2_with (first | ((with_reducible refine sloadN smpT S0 ?_ ?_); focus rfl) | (go_at_call 17; (with_reducible refine (C1.out _ J1).mono ?_); rintro _ V1 ⟨rfl, B⟩; replace BB := bon BB B; replace a0 := cell_below B a0; replace S0 := smp_below B S0; replace J1 := RdI.on J1 B; clear B) | (go_at_call 15; (with_reducible refine (CV.out _).mono ?_); rintro _ V4 ⟨rfl, B⟩; replace BB := bon BB B; replace a0 := cell_below B a0; replace S0 := smp_below B S0; replace v0 := cell_below B v0; replace v1 := cell_below B v1; replace v2 := cell_below B v2; replace v3 := cell_below B v3; replace J1 := RdI.on J1 B; clear B) | (go_at_call 14; (with_reducible refine (CE.out _).mono ?_); rintro _ V3 ⟨rfl, B⟩; replace BB := bon BB B; replace a0 := cell_below B a0; replace S0 := smp_below B S0; replace v0 := cell_below B v0; replace v1 := cell_below B v1; replace v2 := cell_below B v2; replace v3 := cell_below B v3; replace J1 := RdI.on J1 B; clear B) | ((with_reducible refine storeN ?_); refine wpList_vset rfl _ _ _ rfl _ _ _ _ rfl rfl (VBox.made _ 0 0 0 0 _) (by kernel_rfl) ?_; intro V2 B2 D3 hD hz; have B : Below V1.heap.size V1 V2 := (box_below V1 _ _).trans B2; replace BB := bon BB B; replace a0 := cell_below B a0; replace S0 := smp_below B S0; replace J1 := RdI.on J1 B; obtain ⟨v0, v1, v2, v3⟩ := D3.1; clear B B2 D3 hD hz))
  go_ret
  exact ⟨rfl, BB⟩

set_option maxRecDepth 100000 in
set_option maxHeartbeats 8000000 in
theorem nearest_wide (A : Option Addr) (n c : Nat) (ts : List Tx) (s : Nat → Int) (u v k l : Int) (w : World) (R : RdI w w.heap.size A n ts) (hn : n ≤ 9223372036854775807) (h : SV s) (hn0 : 0 < n) (lw : Int) (hw : (lvl ts 0).w = lw) (h64 : 64 < lw) :
    Calls Try.prog 5 #[.agg #[.slice A n c], .agg (smps s), .agg #[.int .i64 u, .int .i64 v, .int .i64 k, .int .i64 l]] w fun e w' => e = .returned (.bool true) ∧ Below w.heap.size w w' := by
  obtain ⟨B0, a0, S0⟩ := args_ts w A n c s 41 27
  obtain ⟨p0, p1, p2, p3, B1⟩ := box4 ((w.alloc (.cells #[.slice A n c] 41)).alloc (.cells (smps s) 27)) (.int .i64 u) (.int .i64 v) (.int .i64 k) (.int .i64 l) 38
  have z2 : ((w.alloc (.cells #[.slice A n c] 41)).alloc (.cells (smps s) 27)).heap.size = w.heap.size + 2 := by simp
  rw [z2] at p0 p1 p2 p3
  replace a0 := cell_below B1 a0
  replace S0 := smp_below B1 S0
  have BB := bon B0 B1
  have J1 := R.on BB
  have CE := Lib.hid (fun W => sexample_b W)
  have cv := fun W => sval_b s W
  have c1 := fun W R => sslv_b A n c ts s u v 0 1 W R hn
  obtain ⟨bb, off, t, rfl, _, TA, _, ht⟩ := J1.at_ hn0
  obtain ⟨_, e1, e2, _⟩ := TA
  simp only [Nat.zero_mul, Nat.add_zero] at e1 e2
  have hl : lvl ts 0 = t.m := by unfold lvl; simp [List.getD, ht]
  have n0 : ¬ (n : Int) = 0 := by omega
  have n00 : ((n : Int) == 0) = false := by simp; omega
  have n1 : ¬ n = 0 := by omega
  rw [decide_eq_true h] at cv
  have CV := Lib.hid cv
  unfold GivesV at c1
  obtain ⟨r, hr⟩ : ∃ r, slv ts s u v 0 1 = r := ⟨_, rfl⟩
  rw [hr] at c1
  have C1 := Lib.hid c1
  rw [← hl] at e1 e2
  rw [hw] at e1
  have d1 : decide (64 < lw) = true := decide_eq_true h64
  clear c1 cv B0 B1 z2 R hn hl ht hr
  go_enter Try.func5, Try.ntmps5
  go_wp2_with (first | ((with_reducible refine sloadN smpT S0 ?_ ?_); focus rfl) | (go_at_call 17; (with_reducible refine (C1.out _ J1).mono ?_); rintro _ V1 ⟨rfl, B⟩; replace BB := bon BB B; replace a0 := cell_below B a0; replace S0 := smp_below B S0; replace e1 := cell_below B e1; replace e2 := cell_below B e2; replace J1 := RdI.on J1 B; clear B) | (go_at_call 15; (with_reducible refine (CV.out _).mono ?_); rintro _ V4 ⟨rfl, B⟩; replace BB := bon BB B; replace a0 := cell_below B a0; replace S0 := smp_below B S0; replace e1 := cell_below B e1; replace e2 := cell_below B e2; replace v0 := cell_below B v0; replace v1 := cell_below B v1; replace v2 := cell_below B v2; replace v3 := cell_below B v3; replace J1 := RdI.on J1 B; clear B) | (go_at_call 14; (with_reducible refine (CE.out _).mono ?_); rintro _ V3 ⟨rfl, B⟩; replace BB := bon BB B; replace a0 := cell_below B a0; replace S0 := smp_below B S0; replace e1 := cell_below B e1; replace e2 := cell_below B e2; replace v0 := cell_below B v0; replace v1 := cell_below B v1; replace v2 := cell_below B v2; replace v3 := cell_below B v3; replace J1 := RdI.on J1 B; clear B) | ((with_reducible refine storeN ?_); refine wpList_vset rfl _ _ _ rfl _ _ _ _ rfl rfl (VBox.made _ 0 0 0 0 _) (by kernel_rfl) ?_; intro V2 B2 D3 hD hz; have B : Below V1.heap.size V1 V2 := (box_below V1 _ _).trans B2; replace BB := bon BB B; replace a0 := cell_below B a0; replace S0 := smp_below B S0; replace e1 := cell_below B e1; replace e2 := cell_below B e2; replace J1 := RdI.on J1 B; obtain ⟨v0, v1, v2, v3⟩ := D3.1; clear B B2 D3 hD hz))
  go_ret
  exact ⟨rfl, BB⟩

set_option maxRecDepth 100000 in
set_option maxHeartbeats 8000000 in
theorem nearest_high (A : Option Addr) (n c : Nat) (ts : List Tx) (s : Nat → Int) (u v k l : Int) (w : World) (R : RdI w w.heap.size A n ts) (hn : n ≤ 9223372036854775807) (h : SV s) (hn0 : 0 < n) (lw lh : Int) (hw : (lvl ts 0).w = lw) (hh : (lvl ts 0).h = lh) (h64 : ¬ 64 < lw) (k64 : 64 < lh) :
    Calls Try.prog 5 #[.agg #[.slice A n c], .agg (smps s), .agg #[.int .i64 u, .int .i64 v, .int .i64 k, .int .i64 l]] w fun e w' => e = .returned (.bool true) ∧ Below w.heap.size w w' := by
  obtain ⟨B0, a0, S0⟩ := args_ts w A n c s 41 27
  obtain ⟨p0, p1, p2, p3, B1⟩ := box4 ((w.alloc (.cells #[.slice A n c] 41)).alloc (.cells (smps s) 27)) (.int .i64 u) (.int .i64 v) (.int .i64 k) (.int .i64 l) 38
  have z2 : ((w.alloc (.cells #[.slice A n c] 41)).alloc (.cells (smps s) 27)).heap.size = w.heap.size + 2 := by simp
  rw [z2] at p0 p1 p2 p3
  replace a0 := cell_below B1 a0
  replace S0 := smp_below B1 S0
  have BB := bon B0 B1
  have J1 := R.on BB
  have CE := Lib.hid (fun W => sexample_b W)
  have cv := fun W => sval_b s W
  have c1 := fun W R => sslv_b A n c ts s u v 0 1 W R hn
  obtain ⟨bb, off, t, rfl, _, TA, _, ht⟩ := J1.at_ hn0
  obtain ⟨_, e1, e2, _⟩ := TA
  simp only [Nat.zero_mul, Nat.add_zero] at e1 e2
  have hl : lvl ts 0 = t.m := by unfold lvl; simp [List.getD, ht]
  have n0 : ¬ (n : Int) = 0 := by omega
  have n00 : ((n : Int) == 0) = false := by simp; omega
  have n1 : ¬ n = 0 := by omega
  rw [decide_eq_true h] at cv
  have CV := Lib.hid cv
  unfold GivesV at c1
  obtain ⟨r, hr⟩ : ∃ r, slv ts s u v 0 1 = r := ⟨_, rfl⟩
  rw [hr] at c1
  have C1 := Lib.hid c1
  rw [← hl] at e1 e2
  rw [hw] at e1
  rw [hh] at e2
  have d1 : decide (64 < lw) = false := decide_eq_false h64
  have d2 : decide (64 < lh) = true := decide_eq_true k64
  clear c1 cv B0 B1 z2 R hn hl ht hr
  go_enter Try.func5, Try.ntmps5
  go_wp2_with (first | ((with_reducible refine sloadN smpT S0 ?_ ?_); focus rfl) | (go_at_call 17; (with_reducible refine (C1.out _ J1).mono ?_); rintro _ V1 ⟨rfl, B⟩; replace BB := bon BB B; replace a0 := cell_below B a0; replace S0 := smp_below B S0; replace e1 := cell_below B e1; replace e2 := cell_below B e2; replace J1 := RdI.on J1 B; clear B) | (go_at_call 15; (with_reducible refine (CV.out _).mono ?_); rintro _ V4 ⟨rfl, B⟩; replace BB := bon BB B; replace a0 := cell_below B a0; replace S0 := smp_below B S0; replace e1 := cell_below B e1; replace e2 := cell_below B e2; replace v0 := cell_below B v0; replace v1 := cell_below B v1; replace v2 := cell_below B v2; replace v3 := cell_below B v3; replace J1 := RdI.on J1 B; clear B) | (go_at_call 14; (with_reducible refine (CE.out _).mono ?_); rintro _ V3 ⟨rfl, B⟩; replace BB := bon BB B; replace a0 := cell_below B a0; replace S0 := smp_below B S0; replace e1 := cell_below B e1; replace e2 := cell_below B e2; replace v0 := cell_below B v0; replace v1 := cell_below B v1; replace v2 := cell_below B v2; replace v3 := cell_below B v3; replace J1 := RdI.on J1 B; clear B) | ((with_reducible refine storeN ?_); refine wpList_vset rfl _ _ _ rfl _ _ _ _ rfl rfl (VBox.made _ 0 0 0 0 _) (by kernel_rfl) ?_; intro V2 B2 D3 hD hz; have B : Below V1.heap.size V1 V2 := (box_below V1 _ _).trans B2; replace BB := bon BB B; replace a0 := cell_below B a0; replace S0 := smp_below B S0; replace e1 := cell_below B e1; replace e2 := cell_below B e2; replace J1 := RdI.on J1 B; obtain ⟨v0, v1, v2, v3⟩ := D3.1; clear B B2 D3 hD hz))
  go_ret
  exact ⟨rfl, BB⟩

set_option maxRecDepth 100000 in
set_option maxHeartbeats 8000000 in
theorem nearest_zero (A : Option Addr) (n c : Nat) (ts : List Tx) (s : Nat → Int) (u v k l : Int) (w : World) (R : RdI w w.heap.size A n ts) (hn : n ≤ 9223372036854775807) (h : SV s) (hn0 : 0 < n) (lw lh : Int) (hw : (lvl ts 0).w = lw) (hh : (lvl ts 0).h = lh) (h64 : ¬ 64 < lw) (k64 : ¬ 64 < lh) (r : Nat → Int) (hr : slv ts s u v 0 1 = r) (y0 : r 0 = 0) (y1 : r 1 = 0) (y2 : r 2 = 0) (y3 : r 3 = 0) :
    Calls Try.prog 5 #[.agg #[.slice A n c], .agg (smps s), .agg #[.int .i64 u, .int .i64 v, .int .i64 k, .int .i64 l]] w fun e w' => e = .returned (.bool true) ∧ Below w.heap.size w w' := by
  obtain ⟨B0, a0, S0⟩ := args_ts w A n c s 41 27
  obtain ⟨p0, p1, p2, p3, B1⟩ := box4 ((w.alloc (.cells #[.slice A n c] 41)).alloc (.cells (smps s) 27)) (.int .i64 u) (.int .i64 v) (.int .i64 k) (.int .i64 l) 38
  have z2 : ((w.alloc (.cells #[.slice A n c] 41)).alloc (.cells (smps s) 27)).heap.size = w.heap.size + 2 := by simp
  rw [z2] at p0 p1 p2 p3
  replace a0 := cell_below B1 a0
  replace S0 := smp_below B1 S0
  have BB := bon B0 B1
  have J1 := R.on BB
  have CE := Lib.hid (fun W => sexample_b W)
  have cv := fun W => sval_b s W
  have c1 := fun W R => sslv_b A n c ts s u v 0 1 W R hn
  obtain ⟨bb, off, t, rfl, _, TA, _, ht⟩ := J1.at_ hn0
  obtain ⟨_, e1, e2, _⟩ := TA
  simp only [Nat.zero_mul, Nat.add_zero] at e1 e2
  have hl : lvl ts 0 = t.m := by unfold lvl; simp [List.getD, ht]
  have n0 : ¬ (n : Int) = 0 := by omega
  have n00 : ((n : Int) == 0) = false := by simp; omega
  have n1 : ¬ n = 0 := by omega
  rw [decide_eq_true h] at cv
  have CV := Lib.hid cv
  unfold GivesV at c1
  rw [hr] at c1
  have C1 := Lib.hid c1
  rw [← hl, hw] at e1
  rw [← hl, hh] at e2
  have d1 : decide (64 < lw) = false := decide_eq_false h64
  have d2 : decide (64 < lh) = false := decide_eq_false k64
  clear c1 cv B0 B1 z2 hl ht
  go_enter Try.func5, Try.ntmps5
  clear hr hw hh R hn
  go_wp2_with (first | ((with_reducible refine sloadN smpT S0 ?_ ?_); focus rfl) | (go_at_call 17; (with_reducible refine (C1.out _ J1).mono ?_); rintro _ V1 ⟨rfl, B⟩; replace BB := bon BB B; replace a0 := cell_below B a0; replace S0 := smp_below B S0; replace e1 := cell_below B e1; replace e2 := cell_below B e2; replace J1 := RdI.on J1 B; clear B) | (go_at_call 15; (with_reducible refine (CV.out _).mono ?_); rintro _ V4 ⟨rfl, B⟩; replace BB := bon BB B; replace a0 := cell_below B a0; replace S0 := smp_below B S0; replace e1 := cell_below B e1; replace e2 := cell_below B e2; replace v0 := cell_below B v0; replace v1 := cell_below B v1; replace v2 := cell_below B v2; replace v3 := cell_below B v3; replace J1 := RdI.on J1 B; clear B) | (go_at_call 14; (with_reducible refine (CE.out _).mono ?_); rintro _ V3 ⟨rfl, B⟩; replace BB := bon BB B; replace a0 := cell_below B a0; replace S0 := smp_below B S0; replace e1 := cell_below B e1; replace e2 := cell_below B e2; replace v0 := cell_below B v0; replace v1 := cell_below B v1; replace v2 := cell_below B v2; replace v3 := cell_below B v3; replace J1 := RdI.on J1 B; clear B) | ((with_reducible refine storeN ?_); refine wpList_vset rfl _ _ _ rfl _ _ _ _ rfl rfl (VBox.made _ 0 0 0 0 _) (by kernel_rfl) ?_; intro V2 B2 D3 hD hz; have B : Below V1.heap.size V1 V2 := (box_below V1 _ _).trans B2; replace BB := bon BB B; replace a0 := cell_below B a0; replace S0 := smp_below B S0; replace e1 := cell_below B e1; replace e2 := cell_below B e2; replace J1 := RdI.on J1 B; obtain ⟨v0, v1, v2, v3⟩ := D3.1; clear B B2 D3 hD hz) | ((with_reducible refine storeN ?_); refine wpList_sset rfl _ _ _ rfl s rfl rfl (SBox.made _ (fun _ => 0) _) (by kernel_rfl) ?_; intro V5 E5 B5 _ _) | ((with_reducible refine storeN ?_); refine wpList_sset1 rfl _ _ _ rfl E5 (fun i => if i = 0 then 3 else s i) rfl (fun i hi => if_neg hi) rfl rfl (by omega) (by kernel_rfl) ?_; intro V6 E6 B6 _ _) | ((with_reducible refine storeN ?_); refine wpList_sset1 rfl _ _ _ rfl E6 (edg s) rfl (fun i hi => by unfold edg; simp [hi]) rfl rfl (by omega) (by kernel_rfl) ?_; intro V7 E7 B7 _ _; have B : Below V4.heap.size V4 V7 := (((box_below V4 _ _).trans B5).trans B6).trans B7; replace BB := bon BB B; replace a0 := cell_below B a0; replace S0 := smp_below B S0; replace e1 := cell_below B e1; replace e2 := cell_below B e2; replace v0 := cell_below B v0; replace v1 := cell_below B v1; replace v2 := cell_below B v2; replace v3 := cell_below B v3; replace J1 := RdI.on J1 B; have S1 := E7.1; clear B B5 B6 B7 E5 E6 E7))
  go_ret
  exact ⟨rfl, BB⟩

end Go.Proofs.Ytoipmldbjciinaa
