/- The reference: fields that are not used, registers and numbers that are out of range, loops. -/
import Derived.Test.YtnhnbblplnhmlaaGreatDoorU5
namespace Go.Proofs.YtnhnbblplnhmlaaGreatDoor
set_option linter.unusedSimpArgs false
open Go.RowKit Go.Sort Go.ChangeShapes Go.WideShapes
set_option linter.unusedVariables false

set_option maxRecDepth 100000 in
set_option maxHeartbeats 4000000 in
theorem runused_b (x : In) (w : World) : Calls Tryz.prog 76 #[.agg (inA x)] w fun e w' => e = .returned (.bool (!only x)) ∧ Below w.heap.size w w' := by
  obtain ⟨c0, c1, c2, c3, c4, c5, BB⟩ := boxI w x 24
  have c := fun W => roperands_q x.o W
  rcases cl_ways x.o with h | h | h | h | h | h | h | h | h | h | h
  all_goals
    rw [h] at c
    have C := Lib.hid c
    have H := Lib.hid h
    clear c h
    simp only [flg, fD, fA, fB, fC, fI] at C
    go_enter Tryz.func76, Tryz.ntmps76
    go_wp2_with (go_at_call 34; (with_reducible refine (C.out _).mono ?_); rintro _ _ ⟨rfl, rfl⟩)
    all_goals
      go_ret
      refine ⟨ret_bool2 ?_, BB⟩
      unfold only
      rw [H.out]
      first | rfl | (simp_all [fD, fA, fB, fC, fI, bne]; done)

theorem wth_reg (d n : Int) : wth d 0 (n - 1) = !(decide (d < 0) || decide (n ≤ d)) := by
  unfold wth
  by_cases h1 : d < 0 <;> by_cases h2 : n ≤ d <;> simp [h1, h2] <;> omega
theorem wth_out (i lo hi : Int) : wth i lo hi = !(decide (i < lo) || decide (hi < i)) := by
  unfold wth
  by_cases h1 : i < lo <;> by_cases h2 : hi < i <;> simp [h1, h2] <;> omega

set_option maxRecDepth 100000 in
set_option maxHeartbeats 4000000 in
theorem rout_o1 (p : Pr) (A : Option Addr) (n c : Nat) (x : In) (w : World) (hp : cnts p = true) (h : x.o = 1) : Calls Tryz.prog 77 #[.agg (prA p A n c), .agg (inA x)] w fun e w' => e = .returned (.bool (!(regs p.rg x && immO p x.o x.i))) ∧ Below w.heap.size w w' := by
  obtain ⟨p0, p1, p2, p3, p4, p5, p6, p7, BP⟩ := boxP w p A n c 31
  obtain ⟨c0, c1, c2, c3, c4, c5, BI⟩ := boxI (w.alloc (.cells (prA p A n c) 31)) x 24
  have BB := bon BP BI
  have z : (w.alloc (.cells (prA p A n c) 31)).heap.size = w.heap.size + 1 := by simp
  replace p0 := cell_below BI p0; replace p1 := cell_below BI p1; replace p2 := cell_below BI p2; replace p3 := cell_below BI p3; replace p4 := cell_below BI p4; replace p5 := cell_below BI p5; replace p6 := cell_below BI p6
  rw [z] at c0 c1 c2 c3 c4 c5
  clear z
  have hb : (0 ≤ p.ip ∧ p.ip ≤ 32) ∧ (0 ≤ p.ou ∧ p.ou ≤ 32) ∧ (0 ≤ p.un ∧ p.un ≤ 64) ∧ (0 ≤ p.tx ∧ p.tx ≤ 4) ∧ (0 ≤ p.bf ∧ p.bf ≤ 4) := by simp [cnts, wth] at hp; omega
  have hcl : cl x.o = 1 := by rw [h]; rfl
  have e : immB p x.o = immB p 1 := by rw [h]
  have C := Lib.hid (fun W => roperands_q x.o W)
  rw [hcl] at C
  rw [h] at C
  simp only [flg, fD, fA, fB, fC, fI] at C
  have H : Hid ((!(regs p.rg x && immO p x.o x.i)) = !(regs p.rg x && immO p x.o x.i)) := Lib.hid rfl
  have HR : regs p.rg x = regs p.rg x := rfl
  conv at HR => rhs; unfold regs; rw [hcl]
  simp only [wth_reg, fD, fA, fB, fC, Int.reduceBEq, Bool.false_or, Bool.or_false, Bool.true_or, Bool.or_true, Bool.not_true, Bool.not_false, Bool.true_and, Bool.and_true, Bool.not_or] at HR
  have HM : immO p x.o x.i = (match immB p x.o with | none => true | some (lo, hi) => wth x.i lo hi) := rfl
  rw [e] at HM
  simp only [immB, wth_out, Int.reduceEq, if_true, if_false] at HM
  have HR2 := Lib.hid HR
  have HM2 := Lib.hid HM
  rw [h] at c0
  clear hp e HR HM hcl h
  go_enter Tryz.func77, Tryz.ntmps77
  go_wp2_with (go_at_call 34; (with_reducible refine (C.out _).mono ?_); rintro _ _ ⟨rfl, rfl⟩)
  all_goals
    go_ret
    refine ⟨ret_bool2 ?_, BB⟩
    rw [HR2.out, HM2.out]
    first | rfl | (simp_all; done) | (simp_all; omega)

set_option maxRecDepth 100000 in
set_option maxHeartbeats 4000000 in
theorem rout_o37 (p : Pr) (A : Option Addr) (n c : Nat) (x : In) (w : World) (hp : cnts p = true) (h : x.o = 37) : Calls Tryz.prog 77 #[.agg (prA p A n c), .agg (inA x)] w fun e w' => e = .returned (.bool (!(regs p.rg x && immO p x.o x.i))) ∧ Below w.heap.size w w' := by
  obtain ⟨p0, p1, p2, p3, p4, p5, p6, p7, BP⟩ := boxP w p A n c 31
  obtain ⟨c0, c1, c2, c3, c4, c5, BI⟩ := boxI (w.alloc (.cells (prA p A n c) 31)) x 24
  have BB := bon BP BI
  have z : (w.alloc (.cells (prA p A n c) 31)).heap.size = w.heap.size + 1 := by simp
  replace p0 := cell_below BI p0; replace p1 := cell_below BI p1; replace p2 := cell_below BI p2; replace p3 := cell_below BI p3; replace p4 := cell_below BI p4; replace p5 := cell_below BI p5; replace p6 := cell_below BI p6
  rw [z] at c0 c1 c2 c3 c4 c5
  clear z
  have hb : (0 ≤ p.ip ∧ p.ip ≤ 32) ∧ (0 ≤ p.ou ∧ p.ou ≤ 32) ∧ (0 ≤ p.un ∧ p.un ≤ 64) ∧ (0 ≤ p.tx ∧ p.tx ≤ 4) ∧ (0 ≤ p.bf ∧ p.bf ≤ 4) := by simp [cnts, wth] at hp; omega
  have hcl : cl x.o = 5 := by rw [h]; rfl
  have e : immB p x.o = immB p 37 := by rw [h]
  have C := Lib.hid (fun W => roperands_q x.o W)
  rw [hcl] at C
  rw [h] at C
  simp only [flg, fD, fA, fB, fC, fI] at C
  have H : Hid ((!(regs p.rg x && immO p x.o x.i)) = !(regs p.rg x && immO p x.o x.i)) := Lib.hid rfl
  have HR : regs p.rg x = regs p.rg x := rfl
  conv at HR => rhs; unfold regs; rw [hcl]
  simp only [wth_reg, fD, fA, fB, fC, Int.reduceBEq, Bool.false_or, Bool.or_false, Bool.true_or, Bool.or_true, Bool.not_true, Bool.not_false, Bool.true_and, Bool.and_true, Bool.not_or] at HR
  have HM : immO p x.o x.i = (match immB p x.o with | none => true | some (lo, hi) => wth x.i lo hi) := rfl
  rw [e] at HM
  simp only [immB, wth_out, Int.reduceEq, if_true, if_false] at HM
  have HR2 := Lib.hid HR
  have HM2 := Lib.hid HM
  rw [h] at c0
  clear hp e HR HM hcl h
  go_enter Tryz.func77, Tryz.ntmps77
  go_wp2_with (go_at_call 34; (with_reducible refine (C.out _).mono ?_); rintro _ _ ⟨rfl, rfl⟩)
  all_goals
    go_ret
    refine ⟨ret_bool2 ?_, BB⟩
    rw [HR2.out, HM2.out]
    first | rfl | (simp_all; done) | (simp_all; omega)

set_option maxRecDepth 100000 in
set_option maxHeartbeats 4000000 in
theorem rout_o38 (p : Pr) (A : Option Addr) (n c : Nat) (x : In) (w : World) (hp : cnts p = true) (h : x.o = 38) : Calls Tryz.prog 77 #[.agg (prA p A n c), .agg (inA x)] w fun e w' => e = .returned (.bool (!(regs p.rg x && immO p x.o x.i))) ∧ Below w.heap.size w w' := by
  obtain ⟨p0, p1, p2, p3, p4, p5, p6, p7, BP⟩ := boxP w p A n c 31
  obtain ⟨c0, c1, c2, c3, c4, c5, BI⟩ := boxI (w.alloc (.cells (prA p A n c) 31)) x 24
  have BB := bon BP BI
  have z : (w.alloc (.cells (prA p A n c) 31)).heap.size = w.heap.size + 1 := by simp
  replace p0 := cell_below BI p0; replace p1 := cell_below BI p1; replace p2 := cell_below BI p2; replace p3 := cell_below BI p3; replace p4 := cell_below BI p4; replace p5 := cell_below BI p5; replace p6 := cell_below BI p6
  rw [z] at c0 c1 c2 c3 c4 c5
  clear z
  have hb : (0 ≤ p.ip ∧ p.ip ≤ 32) ∧ (0 ≤ p.ou ∧ p.ou ≤ 32) ∧ (0 ≤ p.un ∧ p.un ≤ 64) ∧ (0 ≤ p.tx ∧ p.tx ≤ 4) ∧ (0 ≤ p.bf ∧ p.bf ≤ 4) := by simp [cnts, wth] at hp; omega
  have hcl : cl x.o = 5 := by rw [h]; rfl
  have e : immB p x.o = immB p 38 := by rw [h]
  have C := Lib.hid (fun W => roperands_q x.o W)
  rw [hcl] at C
  rw [h] at C
  simp only [flg, fD, fA, fB, fC, fI] at C
  have H : Hid ((!(regs p.rg x && immO p x.o x.i)) = !(regs p.rg x && immO p x.o x.i)) := Lib.hid rfl
  have HR : regs p.rg x = regs p.rg x := rfl
  conv at HR => rhs; unfold regs; rw [hcl]
  simp only [wth_reg, fD, fA, fB, fC, Int.reduceBEq, Bool.false_or, Bool.or_false, Bool.true_or, Bool.or_true, Bool.not_true, Bool.not_false, Bool.true_and, Bool.and_true, Bool.not_or] at HR
  have HM : immO p x.o x.i = (match immB p x.o with | none => true | some (lo, hi) => wth x.i lo hi) := rfl
  rw [e] at HM
  simp only [immB, wth_out, Int.reduceEq, if_true, if_false] at HM
  have HR2 := Lib.hid HR
  have HM2 := Lib.hid HM
  rw [h] at c0
  clear hp e HR HM hcl h
  go_enter Tryz.func77, Tryz.ntmps77
  go_wp2_with (go_at_call 34; (with_reducible refine (C.out _).mono ?_); rintro _ _ ⟨rfl, rfl⟩)
  all_goals
    go_ret
    refine ⟨ret_bool2 ?_, BB⟩
    rw [HR2.out, HM2.out]
    first | rfl | (simp_all; done) | (simp_all; omega)

set_option maxRecDepth 100000 in
set_option maxHeartbeats 4000000 in
theorem rout_o39 (p : Pr) (A : Option Addr) (n c : Nat) (x : In) (w : World) (hp : cnts p = true) (h : x.o = 39) : Calls Tryz.prog 77 #[.agg (prA p A n c), .agg (inA x)] w fun e w' => e = .returned (.bool (!(regs p.rg x && immO p x.o x.i))) ∧ Below w.heap.size w w' := by
  obtain ⟨p0, p1, p2, p3, p4, p5, p6, p7, BP⟩ := boxP w p A n c 31
  obtain ⟨c0, c1, c2, c3, c4, c5, BI⟩ := boxI (w.alloc (.cells (prA p A n c) 31)) x 24
  have BB := bon BP BI
  have z : (w.alloc (.cells (prA p A n c) 31)).heap.size = w.heap.size + 1 := by simp
  replace p0 := cell_below BI p0; replace p1 := cell_below BI p1; replace p2 := cell_below BI p2; replace p3 := cell_below BI p3; replace p4 := cell_below BI p4; replace p5 := cell_below BI p5; replace p6 := cell_below BI p6
  rw [z] at c0 c1 c2 c3 c4 c5
  clear z
  have hb : (0 ≤ p.ip ∧ p.ip ≤ 32) ∧ (0 ≤ p.ou ∧ p.ou ≤ 32) ∧ (0 ≤ p.un ∧ p.un ≤ 64) ∧ (0 ≤ p.tx ∧ p.tx ≤ 4) ∧ (0 ≤ p.bf ∧ p.bf ≤ 4) := by simp [cnts, wth] at hp; omega
  have hcl : cl x.o = 6 := by rw [h]; rfl
  have e : immB p x.o = immB p 39 := by rw [h]
  have C := Lib.hid (fun W => roperands_q x.o W)
  rw [hcl] at C
  rw [h] at C
  simp only [flg, fD, fA, fB, fC, fI] at C
  have H : Hid ((!(regs p.rg x && immO p x.o x.i)) = !(regs p.rg x && immO p x.o x.i)) := Lib.hid rfl
  have HR : regs p.rg x = regs p.rg x := rfl
  conv at HR => rhs; unfold regs; rw [hcl]
  simp only [wth_reg, fD, fA, fB, fC, Int.reduceBEq, Bool.false_or, Bool.or_false, Bool.true_or, Bool.or_true, Bool.not_true, Bool.not_false, Bool.true_and, Bool.and_true, Bool.not_or] at HR
  have HM : immO p x.o x.i = (match immB p x.o with | none => true | some (lo, hi) => wth x.i lo hi) := rfl
  rw [e] at HM
  simp only [immB, wth_out, Int.reduceEq, if_true, if_false] at HM
  have HR2 := Lib.hid HR
  have HM2 := Lib.hid HM
  rw [h] at c0
  clear hp e HR HM hcl h
  go_enter Tryz.func77, Tryz.ntmps77
  go_wp2_with (go_at_call 34; (with_reducible refine (C.out _).mono ?_); rintro _ _ ⟨rfl, rfl⟩)
  all_goals
    go_ret
    refine ⟨ret_bool2 ?_, BB⟩
    rw [HR2.out, HM2.out]
    first | rfl | (simp_all; done) | (simp_all; omega)

set_option maxRecDepth 100000 in
set_option maxHeartbeats 4000000 in
theorem rout_o40 (p : Pr) (A : Option Addr) (n c : Nat) (x : In) (w : World) (hp : cnts p = true) (h : x.o = 40) : Calls Tryz.prog 77 #[.agg (prA p A n c), .agg (inA x)] w fun e w' => e = .returned (.bool (!(regs p.rg x && immO p x.o x.i))) ∧ Below w.heap.size w w' := by
  obtain ⟨p0, p1, p2, p3, p4, p5, p6, p7, BP⟩ := boxP w p A n c 31
  obtain ⟨c0, c1, c2, c3, c4, c5, BI⟩ := boxI (w.alloc (.cells (prA p A n c) 31)) x 24
  have BB := bon BP BI
  have z : (w.alloc (.cells (prA p A n c) 31)).heap.size = w.heap.size + 1 := by simp
  replace p0 := cell_below BI p0; replace p1 := cell_below BI p1; replace p2 := cell_below BI p2; replace p3 := cell_below BI p3; replace p4 := cell_below BI p4; replace p5 := cell_below BI p5; replace p6 := cell_below BI p6
  rw [z] at c0 c1 c2 c3 c4 c5
  clear z
  have hb : (0 ≤ p.ip ∧ p.ip ≤ 32) ∧ (0 ≤ p.ou ∧ p.ou ≤ 32) ∧ (0 ≤ p.un ∧ p.un ≤ 64) ∧ (0 ≤ p.tx ∧ p.tx ≤ 4) ∧ (0 ≤ p.bf ∧ p.bf ≤ 4) := by simp [cnts, wth] at hp; omega
  have hcl : cl x.o = 7 := by rw [h]; rfl
  have e : immB p x.o = immB p 40 := by rw [h]
  have C := Lib.hid (fun W => roperands_q x.o W)
  rw [hcl] at C
  rw [h] at C
  simp only [flg, fD, fA, fB, fC, fI] at C
  have H : Hid ((!(regs p.rg x && immO p x.o x.i)) = !(regs p.rg x && immO p x.o x.i)) := Lib.hid rfl
  have HR : regs p.rg x = regs p.rg x := rfl
  conv at HR => rhs; unfold regs; rw [hcl]
  simp only [wth_reg, fD, fA, fB, fC, Int.reduceBEq, Bool.false_or, Bool.or_false, Bool.true_or, Bool.or_true, Bool.not_true, Bool.not_false, Bool.true_and, Bool.and_true, Bool.not_or] at HR
  have HM : immO p x.o x.i = (match immB p x.o with | none => true | some (lo, hi) => wth x.i lo hi) := rfl
  rw [e] at HM
  simp only [immB, wth_out, Int.reduceEq, if_true, if_false] at HM
  have HR2 := Lib.hid HR
  have HM2 := Lib.hid HM
  rw [h] at c0
  clear hp e HR HM hcl h
  go_enter Tryz.func77, Tryz.ntmps77
  go_wp2_with (go_at_call 34; (with_reducible refine (C.out _).mono ?_); rintro _ _ ⟨rfl, rfl⟩)
  all_goals
    go_ret
    refine ⟨ret_bool2 ?_, BB⟩
    rw [HR2.out, HM2.out]
    first | rfl | (simp_all; done) | (simp_all; omega)

set_option maxRecDepth 100000 in
set_option maxHeartbeats 4000000 in
theorem rout_o41 (p : Pr) (A : Option Addr) (n c : Nat) (x : In) (w : World) (hp : cnts p = true) (h : x.o = 41) : Calls Tryz.prog 77 #[.agg (prA p A n c), .agg (inA x)] w fun e w' => e = .returned (.bool (!(regs p.rg x && immO p x.o x.i))) ∧ Below w.heap.size w w' := by
  obtain ⟨p0, p1, p2, p3, p4, p5, p6, p7, BP⟩ := boxP w p A n c 31
  obtain ⟨c0, c1, c2, c3, c4, c5, BI⟩ := boxI (w.alloc (.cells (prA p A n c) 31)) x 24
  have BB := bon BP BI
  have z : (w.alloc (.cells (prA p A n c) 31)).heap.size = w.heap.size + 1 := by simp
  replace p0 := cell_below BI p0; replace p1 := cell_below BI p1; replace p2 := cell_below BI p2; replace p3 := cell_below BI p3; replace p4 := cell_below BI p4; replace p5 := cell_below BI p5; replace p6 := cell_below BI p6
  rw [z] at c0 c1 c2 c3 c4 c5
  clear z
  have hb : (0 ≤ p.ip ∧ p.ip ≤ 32) ∧ (0 ≤ p.ou ∧ p.ou ≤ 32) ∧ (0 ≤ p.un ∧ p.un ≤ 64) ∧ (0 ≤ p.tx ∧ p.tx ≤ 4) ∧ (0 ≤ p.bf ∧ p.bf ≤ 4) := by simp [cnts, wth] at hp; omega
  have hcl : cl x.o = 7 := by rw [h]; rfl
  have e : immB p x.o = immB p 41 := by rw [h]
  have C := Lib.hid (fun W => roperands_q x.o W)
  rw [hcl] at C
  rw [h] at C
  simp only [flg, fD, fA, fB, fC, fI] at C
  have H : Hid ((!(regs p.rg x && immO p x.o x.i)) = !(regs p.rg x && immO p x.o x.i)) := Lib.hid rfl
  have HR : regs p.rg x = regs p.rg x := rfl
  conv at HR => rhs; unfold regs; rw [hcl]
  simp only [wth_reg, fD, fA, fB, fC, Int.reduceBEq, Bool.false_or, Bool.or_false, Bool.true_or, Bool.or_true, Bool.not_true, Bool.not_false, Bool.true_and, Bool.and_true, Bool.not_or] at HR
  have HM : immO p x.o x.i = (match immB p x.o with | none => true | some (lo, hi) => wth x.i lo hi) := rfl
  rw [e] at HM
  simp only [immB, wth_out, Int.reduceEq, if_true, if_false] at HM
  have HR2 := Lib.hid HR
  have HM2 := Lib.hid HM
  rw [h] at c0
  clear hp e HR HM hcl h
  go_enter Tryz.func77, Tryz.ntmps77
  go_wp2_with (go_at_call 34; (with_reducible refine (C.out _).mono ?_); rintro _ _ ⟨rfl, rfl⟩)
  all_goals
    go_ret
    refine ⟨ret_bool2 ?_, BB⟩
    rw [HR2.out, HM2.out]
    first | rfl | (simp_all; done) | (simp_all; omega)

set_option maxRecDepth 100000 in
set_option maxHeartbeats 4000000 in
theorem rout_o42 (p : Pr) (A : Option Addr) (n c : Nat) (x : In) (w : World) (hp : cnts p = true) (h : x.o = 42) : Calls Tryz.prog 77 #[.agg (prA p A n c), .agg (inA x)] w fun e w' => e = .returned (.bool (!(regs p.rg x && immO p x.o x.i))) ∧ Below w.heap.size w w' := by
  obtain ⟨p0, p1, p2, p3, p4, p5, p6, p7, BP⟩ := boxP w p A n c 31
  obtain ⟨c0, c1, c2, c3, c4, c5, BI⟩ := boxI (w.alloc (.cells (prA p A n c) 31)) x 24
  have BB := bon BP BI
  have z : (w.alloc (.cells (prA p A n c) 31)).heap.size = w.heap.size + 1 := by simp
  replace p0 := cell_below BI p0; replace p1 := cell_below BI p1; replace p2 := cell_below BI p2; replace p3 := cell_below BI p3; replace p4 := cell_below BI p4; replace p5 := cell_below BI p5; replace p6 := cell_below BI p6
  rw [z] at c0 c1 c2 c3 c4 c5
  clear z
  have hb : (0 ≤ p.ip ∧ p.ip ≤ 32) ∧ (0 ≤ p.ou ∧ p.ou ≤ 32) ∧ (0 ≤ p.un ∧ p.un ≤ 64) ∧ (0 ≤ p.tx ∧ p.tx ≤ 4) ∧ (0 ≤ p.bf ∧ p.bf ≤ 4) := by simp [cnts, wth] at hp; omega
  have hcl : cl x.o = 8 := by rw [h]; rfl
  have e : immB p x.o = immB p 42 := by rw [h]
  have C := Lib.hid (fun W => roperands_q x.o W)
  rw [hcl] at C
  rw [h] at C
  simp only [flg, fD, fA, fB, fC, fI] at C
  have H : Hid ((!(regs p.rg x && immO p x.o x.i)) = !(regs p.rg x && immO p x.o x.i)) := Lib.hid rfl
  have HR : regs p.rg x = regs p.rg x := rfl
  conv at HR => rhs; unfold regs; rw [hcl]
  simp only [wth_reg, fD, fA, fB, fC, Int.reduceBEq, Bool.false_or, Bool.or_false, Bool.true_or, Bool.or_true, Bool.not_true, Bool.not_false, Bool.true_and, Bool.and_true, Bool.not_or] at HR
  have HM : immO p x.o x.i = (match immB p x.o with | none => true | some (lo, hi) => wth x.i lo hi) := rfl
  rw [e] at HM
  simp only [immB, wth_out, Int.reduceEq, if_true, if_false] at HM
  have HR2 := Lib.hid HR
  have HM2 := Lib.hid HM
  rw [h] at c0
  clear hp e HR HM hcl h
  go_enter Tryz.func77, Tryz.ntmps77
  go_wp2_with (go_at_call 34; (with_reducible refine (C.out _).mono ?_); rintro _ _ ⟨rfl, rfl⟩)
  all_goals
    go_ret
    refine ⟨ret_bool2 ?_, BB⟩
    rw [HR2.out, HM2.out]
    first | rfl | (simp_all; done) | (simp_all; omega)

set_option maxRecDepth 100000 in
set_option maxHeartbeats 4000000 in
theorem rout_o46 (p : Pr) (A : Option Addr) (n c : Nat) (x : In) (w : World) (hp : cnts p = true) (h : x.o = 46) : Calls Tryz.prog 77 #[.agg (prA p A n c), .agg (inA x)] w fun e w' => e = .returned (.bool (!(regs p.rg x && immO p x.o x.i))) ∧ Below w.heap.size w w' := by
  obtain ⟨p0, p1, p2, p3, p4, p5, p6, p7, BP⟩ := boxP w p A n c 31
  obtain ⟨c0, c1, c2, c3, c4, c5, BI⟩ := boxI (w.alloc (.cells (prA p A n c) 31)) x 24
  have BB := bon BP BI
  have z : (w.alloc (.cells (prA p A n c) 31)).heap.size = w.heap.size + 1 := by simp
  replace p0 := cell_below BI p0; replace p1 := cell_below BI p1; replace p2 := cell_below BI p2; replace p3 := cell_below BI p3; replace p4 := cell_below BI p4; replace p5 := cell_below BI p5; replace p6 := cell_below BI p6
  rw [z] at c0 c1 c2 c3 c4 c5
  clear z
  have hb : (0 ≤ p.ip ∧ p.ip ≤ 32) ∧ (0 ≤ p.ou ∧ p.ou ≤ 32) ∧ (0 ≤ p.un ∧ p.un ≤ 64) ∧ (0 ≤ p.tx ∧ p.tx ≤ 4) ∧ (0 ≤ p.bf ∧ p.bf ≤ 4) := by simp [cnts, wth] at hp; omega
  have hcl : cl x.o = 10 := by rw [h]; rfl
  have e : immB p x.o = immB p 46 := by rw [h]
  have C := Lib.hid (fun W => roperands_q x.o W)
  rw [hcl] at C
  rw [h] at C
  simp only [flg, fD, fA, fB, fC, fI] at C
  have H : Hid ((!(regs p.rg x && immO p x.o x.i)) = !(regs p.rg x && immO p x.o x.i)) := Lib.hid rfl
  have HR : regs p.rg x = regs p.rg x := rfl
  conv at HR => rhs; unfold regs; rw [hcl]
  simp only [wth_reg, fD, fA, fB, fC, Int.reduceBEq, Bool.false_or, Bool.or_false, Bool.true_or, Bool.or_true, Bool.not_true, Bool.not_false, Bool.true_and, Bool.and_true, Bool.not_or] at HR
  have HM : immO p x.o x.i = (match immB p x.o with | none => true | some (lo, hi) => wth x.i lo hi) := rfl
  rw [e] at HM
  simp only [immB, wth_out, Int.reduceEq, if_true, if_false] at HM
  have HR2 := Lib.hid HR
  have HM2 := Lib.hid HM
  rw [h] at c0
  clear hp e HR HM hcl h
  go_enter Tryz.func77, Tryz.ntmps77
  go_wp2_with (go_at_call 34; (with_reducible refine (C.out _).mono ?_); rintro _ _ ⟨rfl, rfl⟩)
  all_goals
    go_ret
    refine ⟨ret_bool2 ?_, BB⟩
    rw [HR2.out, HM2.out]
    first | rfl | (simp_all; done) | (simp_all; omega)

set_option maxRecDepth 100000 in
set_option maxHeartbeats 4000000 in
theorem rout_k0 (p : Pr) (A : Option Addr) (n c : Nat) (x : In) (w : World) (hp : cnts p = true) (hcl : cl x.o = 0) : Calls Tryz.prog 77 #[.agg (prA p A n c), .agg (inA x)] w fun e w' => e = .returned (.bool (!(regs p.rg x && immO p x.o x.i))) ∧ Below w.heap.size w w' := by
  obtain ⟨p0, p1, p2, p3, p4, p5, p6, p7, BP⟩ := boxP w p A n c 31
  obtain ⟨c0, c1, c2, c3, c4, c5, BI⟩ := boxI (w.alloc (.cells (prA p A n c) 31)) x 24
  have BB := bon BP BI
  have z : (w.alloc (.cells (prA p A n c) 31)).heap.size = w.heap.size + 1 := by simp
  replace p0 := cell_below BI p0; replace p1 := cell_below BI p1; replace p2 := cell_below BI p2; replace p3 := cell_below BI p3; replace p4 := cell_below BI p4; replace p5 := cell_below BI p5; replace p6 := cell_below BI p6
  rw [z] at c0 c1 c2 c3 c4 c5
  clear z
  have hb : (0 ≤ p.ip ∧ p.ip ≤ 32) ∧ (0 ≤ p.ou ∧ p.ou ≤ 32) ∧ (0 ≤ p.un ∧ p.un ≤ 64) ∧ (0 ≤ p.tx ∧ p.tx ≤ 4) ∧ (0 ≤ p.bf ∧ p.bf ≤ 4) := by simp [cnts, wth] at hp; omega
  have e : immB p x.o = none := by
    unfold immB
    by_cases h1 : x.o = 1
    · rw [h1] at hcl; cases hcl
    rw [if_neg h1]
    by_cases h37 : x.o = 37
    · rw [h37] at hcl; cases hcl
    rw [if_neg h37]
    by_cases h38 : x.o = 38
    · rw [h38] at hcl; cases hcl
    rw [if_neg h38]
    by_cases h39 : x.o = 39
    · rw [h39] at hcl; cases hcl
    rw [if_neg h39]
    by_cases h40 : x.o = 40
    · rw [h40] at hcl; cases hcl
    rw [if_neg h40]
    by_cases h41 : x.o = 41
    · rw [h41] at hcl; cases hcl
    rw [if_neg h41]
    by_cases h42 : x.o = 42
    · rw [h42] at hcl; cases hcl
    rw [if_neg h42]
    by_cases h46 : x.o = 46
    · rw [h46] at hcl; cases hcl
    rw [if_neg h46]
  have n1 : (x.o == 1) = false := by
    cases q : x.o == 1
    · rfl
    · rw [beq_iff_eq] at q; rw [q] at hcl; cases hcl
  have n37 : (x.o == 37) = false := by
    cases q : x.o == 37
    · rfl
    · rw [beq_iff_eq] at q; rw [q] at hcl; cases hcl
  have n38 : (x.o == 38) = false := by
    cases q : x.o == 38
    · rfl
    · rw [beq_iff_eq] at q; rw [q] at hcl; cases hcl
  have n39 : (x.o == 39) = false := by
    cases q : x.o == 39
    · rfl
    · rw [beq_iff_eq] at q; rw [q] at hcl; cases hcl
  have n40 : (x.o == 40) = false := by
    cases q : x.o == 40
    · rfl
    · rw [beq_iff_eq] at q; rw [q] at hcl; cases hcl
  have n41 : (x.o == 41) = false := by
    cases q : x.o == 41
    · rfl
    · rw [beq_iff_eq] at q; rw [q] at hcl; cases hcl
  have n42 : (x.o == 42) = false := by
    cases q : x.o == 42
    · rfl
    · rw [beq_iff_eq] at q; rw [q] at hcl; cases hcl
  have n46 : (x.o == 46) = false := by
    cases q : x.o == 46
    · rfl
    · rw [beq_iff_eq] at q; rw [q] at hcl; cases hcl
  have C := Lib.hid (fun W => roperands_q x.o W)
  rw [hcl] at C

  simp only [flg, fD, fA, fB, fC, fI] at C
  have H : Hid ((!(regs p.rg x && immO p x.o x.i)) = !(regs p.rg x && immO p x.o x.i)) := Lib.hid rfl
  have HR : regs p.rg x = regs p.rg x := rfl
  conv at HR => rhs; unfold regs; rw [hcl]
  simp only [wth_reg, fD, fA, fB, fC, Int.reduceBEq, Bool.false_or, Bool.or_false, Bool.true_or, Bool.or_true, Bool.not_true, Bool.not_false, Bool.true_and, Bool.and_true, Bool.not_or] at HR
  have HM : immO p x.o x.i = (match immB p x.o with | none => true | some (lo, hi) => wth x.i lo hi) := rfl
  rw [e] at HM
  simp only [immB, wth_out, Int.reduceEq, if_true, if_false] at HM
  have HR2 := Lib.hid HR
  have HM2 := Lib.hid HM

  clear hp e HR HM hcl
  go_enter Tryz.func77, Tryz.ntmps77
  go_wp2_with (go_at_call 34; (with_reducible refine (C.out _).mono ?_); rintro _ _ ⟨rfl, rfl⟩)
  all_goals
    go_ret
    refine ⟨ret_bool2 ?_, BB⟩
    rw [HR2.out, HM2.out]
    first | rfl | (simp_all; done) | (simp_all; omega)

set_option maxRecDepth 100000 in
set_option maxHeartbeats 4000000 in
theorem rout_k2 (p : Pr) (A : Option Addr) (n c : Nat) (x : In) (w : World) (hp : cnts p = true) (hcl : cl x.o = 2) : Calls Tryz.prog 77 #[.agg (prA p A n c), .agg (inA x)] w fun e w' => e = .returned (.bool (!(regs p.rg x && immO p x.o x.i))) ∧ Below w.heap.size w w' := by
  obtain ⟨p0, p1, p2, p3, p4, p5, p6, p7, BP⟩ := boxP w p A n c 31
  obtain ⟨c0, c1, c2, c3, c4, c5, BI⟩ := boxI (w.alloc (.cells (prA p A n c) 31)) x 24
  have BB := bon BP BI
  have z : (w.alloc (.cells (prA p A n c) 31)).heap.size = w.heap.size + 1 := by simp
  replace p0 := cell_below BI p0; replace p1 := cell_below BI p1; replace p2 := cell_below BI p2; replace p3 := cell_below BI p3; replace p4 := cell_below BI p4; replace p5 := cell_below BI p5; replace p6 := cell_below BI p6
  rw [z] at c0 c1 c2 c3 c4 c5
  clear z
  have hb : (0 ≤ p.ip ∧ p.ip ≤ 32) ∧ (0 ≤ p.ou ∧ p.ou ≤ 32) ∧ (0 ≤ p.un ∧ p.un ≤ 64) ∧ (0 ≤ p.tx ∧ p.tx ≤ 4) ∧ (0 ≤ p.bf ∧ p.bf ≤ 4) := by simp [cnts, wth] at hp; omega
  have e : immB p x.o = none := by
    unfold immB
    by_cases h1 : x.o = 1
    · rw [h1] at hcl; cases hcl
    rw [if_neg h1]
    by_cases h37 : x.o = 37
    · rw [h37] at hcl; cases hcl
    rw [if_neg h37]
    by_cases h38 : x.o = 38
    · rw [h38] at hcl; cases hcl
    rw [if_neg h38]
    by_cases h39 : x.o = 39
    · rw [h39] at hcl; cases hcl
    rw [if_neg h39]
    by_cases h40 : x.o = 40
    · rw [h40] at hcl; cases hcl
    rw [if_neg h40]
    by_cases h41 : x.o = 41
    · rw [h41] at hcl; cases hcl
    rw [if_neg h41]
    by_cases h42 : x.o = 42
    · rw [h42] at hcl; cases hcl
    rw [if_neg h42]
    by_cases h46 : x.o = 46
    · rw [h46] at hcl; cases hcl
    rw [if_neg h46]
  have n1 : (x.o == 1) = false := by
    cases q : x.o == 1
    · rfl
    · rw [beq_iff_eq] at q; rw [q] at hcl; cases hcl
  have n37 : (x.o == 37) = false := by
    cases q : x.o == 37
    · rfl
    · rw [beq_iff_eq] at q; rw [q] at hcl; cases hcl
  have n38 : (x.o == 38) = false := by
    cases q : x.o == 38
    · rfl
    · rw [beq_iff_eq] at q; rw [q] at hcl; cases hcl
  have n39 : (x.o == 39) = false := by
    cases q : x.o == 39
    · rfl
    · rw [beq_iff_eq] at q; rw [q] at hcl; cases hcl
  have n40 : (x.o == 40) = false := by
    cases q : x.o == 40
    · rfl
    · rw [beq_iff_eq] at q; rw [q] at hcl; cases hcl
  have n41 : (x.o == 41) = false := by
    cases q : x.o == 41
    · rfl
    · rw [beq_iff_eq] at q; rw [q] at hcl; cases hcl
  have n42 : (x.o == 42) = false := by
    cases q : x.o == 42
    · rfl
    · rw [beq_iff_eq] at q; rw [q] at hcl; cases hcl
  have n46 : (x.o == 46) = false := by
    cases q : x.o == 46
    · rfl
    · rw [beq_iff_eq] at q; rw [q] at hcl; cases hcl
  have C := Lib.hid (fun W => roperands_q x.o W)
  rw [hcl] at C

  simp only [flg, fD, fA, fB, fC, fI] at C
  have H : Hid ((!(regs p.rg x && immO p x.o x.i)) = !(regs p.rg x && immO p x.o x.i)) := Lib.hid rfl
  have HR : regs p.rg x = regs p.rg x := rfl
  conv at HR => rhs; unfold regs; rw [hcl]
  simp only [wth_reg, fD, fA, fB, fC, Int.reduceBEq, Bool.false_or, Bool.or_false, Bool.true_or, Bool.or_true, Bool.not_true, Bool.not_false, Bool.true_and, Bool.and_true, Bool.not_or] at HR
  have HM : immO p x.o x.i = (match immB p x.o with | none => true | some (lo, hi) => wth x.i lo hi) := rfl
  rw [e] at HM
  simp only [immB, wth_out, Int.reduceEq, if_true, if_false] at HM
  have HR2 := Lib.hid HR
  have HM2 := Lib.hid HM

  clear hp e HR HM hcl
  go_enter Tryz.func77, Tryz.ntmps77
  go_wp2_with (go_at_call 34; (with_reducible refine (C.out _).mono ?_); rintro _ _ ⟨rfl, rfl⟩)
  all_goals
    go_ret
    refine ⟨ret_bool2 ?_, BB⟩
    rw [HR2.out, HM2.out]
    first | rfl | (simp_all; done) | (simp_all; omega)

set_option maxRecDepth 100000 in
set_option maxHeartbeats 4000000 in
theorem rout_k3 (p : Pr) (A : Option Addr) (n c : Nat) (x : In) (w : World) (hp : cnts p = true) (hcl : cl x.o = 3) : Calls Tryz.prog 77 #[.agg (prA p A n c), .agg (inA x)] w fun e w' => e = .returned (.bool (!(regs p.rg x && immO p x.o x.i))) ∧ Below w.heap.size w w' := by
  obtain ⟨p0, p1, p2, p3, p4, p5, p6, p7, BP⟩ := boxP w p A n c 31
  obtain ⟨c0, c1, c2, c3, c4, c5, BI⟩ := boxI (w.alloc (.cells (prA p A n c) 31)) x 24
  have BB := bon BP BI
  have z : (w.alloc (.cells (prA p A n c) 31)).heap.size = w.heap.size + 1 := by simp
  replace p0 := cell_below BI p0; replace p1 := cell_below BI p1; replace p2 := cell_below BI p2; replace p3 := cell_below BI p3; replace p4 := cell_below BI p4; replace p5 := cell_below BI p5; replace p6 := cell_below BI p6
  rw [z] at c0 c1 c2 c3 c4 c5
  clear z
  have hb : (0 ≤ p.ip ∧ p.ip ≤ 32) ∧ (0 ≤ p.ou ∧ p.ou ≤ 32) ∧ (0 ≤ p.un ∧ p.un ≤ 64) ∧ (0 ≤ p.tx ∧ p.tx ≤ 4) ∧ (0 ≤ p.bf ∧ p.bf ≤ 4) := by simp [cnts, wth] at hp; omega
  have e : immB p x.o = none := by
    unfold immB
    by_cases h1 : x.o = 1
    · rw [h1] at hcl; cases hcl
    rw [if_neg h1]
    by_cases h37 : x.o = 37
    · rw [h37] at hcl; cases hcl
    rw [if_neg h37]
    by_cases h38 : x.o = 38
    · rw [h38] at hcl; cases hcl
    rw [if_neg h38]
    by_cases h39 : x.o = 39
    · rw [h39] at hcl; cases hcl
    rw [if_neg h39]
    by_cases h40 : x.o = 40
    · rw [h40] at hcl; cases hcl
    rw [if_neg h40]
    by_cases h41 : x.o = 41
    · rw [h41] at hcl; cases hcl
    rw [if_neg h41]
    by_cases h42 : x.o = 42
    · rw [h42] at hcl; cases hcl
    rw [if_neg h42]
    by_cases h46 : x.o = 46
    · rw [h46] at hcl; cases hcl
    rw [if_neg h46]
  have n1 : (x.o == 1) = false := by
    cases q : x.o == 1
    · rfl
    · rw [beq_iff_eq] at q; rw [q] at hcl; cases hcl
  have n37 : (x.o == 37) = false := by
    cases q : x.o == 37
    · rfl
    · rw [beq_iff_eq] at q; rw [q] at hcl; cases hcl
  have n38 : (x.o == 38) = false := by
    cases q : x.o == 38
    · rfl
    · rw [beq_iff_eq] at q; rw [q] at hcl; cases hcl
  have n39 : (x.o == 39) = false := by
    cases q : x.o == 39
    · rfl
    · rw [beq_iff_eq] at q; rw [q] at hcl; cases hcl
  have n40 : (x.o == 40) = false := by
    cases q : x.o == 40
    · rfl
    · rw [beq_iff_eq] at q; rw [q] at hcl; cases hcl
  have n41 : (x.o == 41) = false := by
    cases q : x.o == 41
    · rfl
    · rw [beq_iff_eq] at q; rw [q] at hcl; cases hcl
  have n42 : (x.o == 42) = false := by
    cases q : x.o == 42
    · rfl
    · rw [beq_iff_eq] at q; rw [q] at hcl; cases hcl
  have n46 : (x.o == 46) = false := by
    cases q : x.o == 46
    · rfl
    · rw [beq_iff_eq] at q; rw [q] at hcl; cases hcl
  have C := Lib.hid (fun W => roperands_q x.o W)
  rw [hcl] at C

  simp only [flg, fD, fA, fB, fC, fI] at C
  have H : Hid ((!(regs p.rg x && immO p x.o x.i)) = !(regs p.rg x && immO p x.o x.i)) := Lib.hid rfl
  have HR : regs p.rg x = regs p.rg x := rfl
  conv at HR => rhs; unfold regs; rw [hcl]
  simp only [wth_reg, fD, fA, fB, fC, Int.reduceBEq, Bool.false_or, Bool.or_false, Bool.true_or, Bool.or_true, Bool.not_true, Bool.not_false, Bool.true_and, Bool.and_true, Bool.not_or] at HR
  have HM : immO p x.o x.i = (match immB p x.o with | none => true | some (lo, hi) => wth x.i lo hi) := rfl
  rw [e] at HM
  simp only [immB, wth_out, Int.reduceEq, if_true, if_false] at HM
  have HR2 := Lib.hid HR
  have HM2 := Lib.hid HM

  clear hp e HR HM hcl
  go_enter Tryz.func77, Tryz.ntmps77
  go_wp2_with (go_at_call 34; (with_reducible refine (C.out _).mono ?_); rintro _ _ ⟨rfl, rfl⟩)
  all_goals
    go_ret
    refine ⟨ret_bool2 ?_, BB⟩
    rw [HR2.out, HM2.out]
    first | rfl | (simp_all; done) | (simp_all; omega)

set_option maxRecDepth 100000 in
set_option maxHeartbeats 4000000 in
theorem rout_k4 (p : Pr) (A : Option Addr) (n c : Nat) (x : In) (w : World) (hp : cnts p = true) (hcl : cl x.o = 4) : Calls Tryz.prog 77 #[.agg (prA p A n c), .agg (inA x)] w fun e w' => e = .returned (.bool (!(regs p.rg x && immO p x.o x.i))) ∧ Below w.heap.size w w' := by
  obtain ⟨p0, p1, p2, p3, p4, p5, p6, p7, BP⟩ := boxP w p A n c 31
  obtain ⟨c0, c1, c2, c3, c4, c5, BI⟩ := boxI (w.alloc (.cells (prA p A n c) 31)) x 24
  have BB := bon BP BI
  have z : (w.alloc (.cells (prA p A n c) 31)).heap.size = w.heap.size + 1 := by simp
  replace p0 := cell_below BI p0; replace p1 := cell_below BI p1; replace p2 := cell_below BI p2; replace p3 := cell_below BI p3; replace p4 := cell_below BI p4; replace p5 := cell_below BI p5; replace p6 := cell_below BI p6
  rw [z] at c0 c1 c2 c3 c4 c5
  clear z
  have hb : (0 ≤ p.ip ∧ p.ip ≤ 32) ∧ (0 ≤ p.ou ∧ p.ou ≤ 32) ∧ (0 ≤ p.un ∧ p.un ≤ 64) ∧ (0 ≤ p.tx ∧ p.tx ≤ 4) ∧ (0 ≤ p.bf ∧ p.bf ≤ 4) := by simp [cnts, wth] at hp; omega
  have e : immB p x.o = none := by
    unfold immB
    by_cases h1 : x.o = 1
    · rw [h1] at hcl; cases hcl
    rw [if_neg h1]
    by_cases h37 : x.o = 37
    · rw [h37] at hcl; cases hcl
    rw [if_neg h37]
    by_cases h38 : x.o = 38
    · rw [h38] at hcl; cases hcl
    rw [if_neg h38]
    by_cases h39 : x.o = 39
    · rw [h39] at hcl; cases hcl
    rw [if_neg h39]
    by_cases h40 : x.o = 40
    · rw [h40] at hcl; cases hcl
    rw [if_neg h40]
    by_cases h41 : x.o = 41
    · rw [h41] at hcl; cases hcl
    rw [if_neg h41]
    by_cases h42 : x.o = 42
    · rw [h42] at hcl; cases hcl
    rw [if_neg h42]
    by_cases h46 : x.o = 46
    · rw [h46] at hcl; cases hcl
    rw [if_neg h46]
  have n1 : (x.o == 1) = false := by
    cases q : x.o == 1
    · rfl
    · rw [beq_iff_eq] at q; rw [q] at hcl; cases hcl
  have n37 : (x.o == 37) = false := by
    cases q : x.o == 37
    · rfl
    · rw [beq_iff_eq] at q; rw [q] at hcl; cases hcl
  have n38 : (x.o == 38) = false := by
    cases q : x.o == 38
    · rfl
    · rw [beq_iff_eq] at q; rw [q] at hcl; cases hcl
  have n39 : (x.o == 39) = false := by
    cases q : x.o == 39
    · rfl
    · rw [beq_iff_eq] at q; rw [q] at hcl; cases hcl
  have n40 : (x.o == 40) = false := by
    cases q : x.o == 40
    · rfl
    · rw [beq_iff_eq] at q; rw [q] at hcl; cases hcl
  have n41 : (x.o == 41) = false := by
    cases q : x.o == 41
    · rfl
    · rw [beq_iff_eq] at q; rw [q] at hcl; cases hcl
  have n42 : (x.o == 42) = false := by
    cases q : x.o == 42
    · rfl
    · rw [beq_iff_eq] at q; rw [q] at hcl; cases hcl
  have n46 : (x.o == 46) = false := by
    cases q : x.o == 46
    · rfl
    · rw [beq_iff_eq] at q; rw [q] at hcl; cases hcl
  have C := Lib.hid (fun W => roperands_q x.o W)
  rw [hcl] at C

  simp only [flg, fD, fA, fB, fC, fI] at C
  have H : Hid ((!(regs p.rg x && immO p x.o x.i)) = !(regs p.rg x && immO p x.o x.i)) := Lib.hid rfl
  have HR : regs p.rg x = regs p.rg x := rfl
  conv at HR => rhs; unfold regs; rw [hcl]
  simp only [wth_reg, fD, fA, fB, fC, Int.reduceBEq, Bool.false_or, Bool.or_false, Bool.true_or, Bool.or_true, Bool.not_true, Bool.not_false, Bool.true_and, Bool.and_true, Bool.not_or] at HR
  have HM : immO p x.o x.i = (match immB p x.o with | none => true | some (lo, hi) => wth x.i lo hi) := rfl
  rw [e] at HM
  simp only [immB, wth_out, Int.reduceEq, if_true, if_false] at HM
  have HR2 := Lib.hid HR
  have HM2 := Lib.hid HM

  clear hp e HR HM hcl
  go_enter Tryz.func77, Tryz.ntmps77
  go_wp2_with (go_at_call 34; (with_reducible refine (C.out _).mono ?_); rintro _ _ ⟨rfl, rfl⟩)
  all_goals
    go_ret
    refine ⟨ret_bool2 ?_, BB⟩
    rw [HR2.out, HM2.out]
    first | rfl | (simp_all; done) | (simp_all; omega)

set_option maxRecDepth 100000 in
set_option maxHeartbeats 4000000 in
theorem rout_k9 (p : Pr) (A : Option Addr) (n c : Nat) (x : In) (w : World) (hp : cnts p = true) (hcl : cl x.o = 9) : Calls Tryz.prog 77 #[.agg (prA p A n c), .agg (inA x)] w fun e w' => e = .returned (.bool (!(regs p.rg x && immO p x.o x.i))) ∧ Below w.heap.size w w' := by
  obtain ⟨p0, p1, p2, p3, p4, p5, p6, p7, BP⟩ := boxP w p A n c 31
  obtain ⟨c0, c1, c2, c3, c4, c5, BI⟩ := boxI (w.alloc (.cells (prA p A n c) 31)) x 24
  have BB := bon BP BI
  have z : (w.alloc (.cells (prA p A n c) 31)).heap.size = w.heap.size + 1 := by simp
  replace p0 := cell_below BI p0; replace p1 := cell_below BI p1; replace p2 := cell_below BI p2; replace p3 := cell_below BI p3; replace p4 := cell_below BI p4; replace p5 := cell_below BI p5; replace p6 := cell_below BI p6
  rw [z] at c0 c1 c2 c3 c4 c5
  clear z
  have hb : (0 ≤ p.ip ∧ p.ip ≤ 32) ∧ (0 ≤ p.ou ∧ p.ou ≤ 32) ∧ (0 ≤ p.un ∧ p.un ≤ 64) ∧ (0 ≤ p.tx ∧ p.tx ≤ 4) ∧ (0 ≤ p.bf ∧ p.bf ≤ 4) := by simp [cnts, wth] at hp; omega
  have e : immB p x.o = none := by
    unfold immB
    by_cases h1 : x.o = 1
    · rw [h1] at hcl; cases hcl
    rw [if_neg h1]
    by_cases h37 : x.o = 37
    · rw [h37] at hcl; cases hcl
    rw [if_neg h37]
    by_cases h38 : x.o = 38
    · rw [h38] at hcl; cases hcl
    rw [if_neg h38]
    by_cases h39 : x.o = 39
    · rw [h39] at hcl; cases hcl
    rw [if_neg h39]
    by_cases h40 : x.o = 40
    · rw [h40] at hcl; cases hcl
    rw [if_neg h40]
    by_cases h41 : x.o = 41
    · rw [h41] at hcl; cases hcl
    rw [if_neg h41]
    by_cases h42 : x.o = 42
    · rw [h42] at hcl; cases hcl
    rw [if_neg h42]
    by_cases h46 : x.o = 46
    · rw [h46] at hcl; cases hcl
    rw [if_neg h46]
  have n1 : (x.o == 1) = false := by
    cases q : x.o == 1
    · rfl
    · rw [beq_iff_eq] at q; rw [q] at hcl; cases hcl
  have n37 : (x.o == 37) = false := by
    cases q : x.o == 37
    · rfl
    · rw [beq_iff_eq] at q; rw [q] at hcl; cases hcl
  have n38 : (x.o == 38) = false := by
    cases q : x.o == 38
    · rfl
    · rw [beq_iff_eq] at q; rw [q] at hcl; cases hcl
  have n39 : (x.o == 39) = false := by
    cases q : x.o == 39
    · rfl
    · rw [beq_iff_eq] at q; rw [q] at hcl; cases hcl
  have n40 : (x.o == 40) = false := by
    cases q : x.o == 40
    · rfl
    · rw [beq_iff_eq] at q; rw [q] at hcl; cases hcl
  have n41 : (x.o == 41) = false := by
    cases q : x.o == 41
    · rfl
    · rw [beq_iff_eq] at q; rw [q] at hcl; cases hcl
  have n42 : (x.o == 42) = false := by
    cases q : x.o == 42
    · rfl
    · rw [beq_iff_eq] at q; rw [q] at hcl; cases hcl
  have n46 : (x.o == 46) = false := by
    cases q : x.o == 46
    · rfl
    · rw [beq_iff_eq] at q; rw [q] at hcl; cases hcl
  have C := Lib.hid (fun W => roperands_q x.o W)
  rw [hcl] at C

  simp only [flg, fD, fA, fB, fC, fI] at C
  have H : Hid ((!(regs p.rg x && immO p x.o x.i)) = !(regs p.rg x && immO p x.o x.i)) := Lib.hid rfl
  have HR : regs p.rg x = regs p.rg x := rfl
  conv at HR => rhs; unfold regs; rw [hcl]
  simp only [wth_reg, fD, fA, fB, fC, Int.reduceBEq, Bool.false_or, Bool.or_false, Bool.true_or, Bool.or_true, Bool.not_true, Bool.not_false, Bool.true_and, Bool.and_true, Bool.not_or] at HR
  have HM : immO p x.o x.i = (match immB p x.o with | none => true | some (lo, hi) => wth x.i lo hi) := rfl
  rw [e] at HM
  simp only [immB, wth_out, Int.reduceEq, if_true, if_false] at HM
  have HR2 := Lib.hid HR
  have HM2 := Lib.hid HM

  clear hp e HR HM hcl
  go_enter Tryz.func77, Tryz.ntmps77
  go_wp2_with (go_at_call 34; (with_reducible refine (C.out _).mono ?_); rintro _ _ ⟨rfl, rfl⟩)
  all_goals
    go_ret
    refine ⟨ret_bool2 ?_, BB⟩
    rw [HR2.out, HM2.out]
    first | rfl | (simp_all; done) | (simp_all; omega)

theorem routside_b (p : Pr) (A : Option Addr) (n c : Nat) (x : In) (w : World) (hp : cnts p = true) : Calls Tryz.prog 77 #[.agg (prA p A n c), .agg (inA x)] w fun e w' => e = .returned (.bool (!(regs p.rg x && immO p x.o x.i))) ∧ Below w.heap.size w w' := by
  by_cases h1 : x.o = 1
  · exact rout_o1 p A n c x w hp h1
  by_cases h37 : x.o = 37
  · exact rout_o37 p A n c x w hp h37
  by_cases h38 : x.o = 38
  · exact rout_o38 p A n c x w hp h38
  by_cases h39 : x.o = 39
  · exact rout_o39 p A n c x w hp h39
  by_cases h40 : x.o = 40
  · exact rout_o40 p A n c x w hp h40
  by_cases h41 : x.o = 41
  · exact rout_o41 p A n c x w hp h41
  by_cases h42 : x.o = 42
  · exact rout_o42 p A n c x w hp h42
  by_cases h46 : x.o = 46
  · exact rout_o46 p A n c x w hp h46
  rcases cl_ways x.o with h | h | h | h | h | h | h | h | h | h | h
  · exact rout_k0 p A n c x w hp h
  · exfalso; unfold cl at h; grind (splits := 40)
  · exact rout_k2 p A n c x w hp h
  · exact rout_k3 p A n c x w hp h
  · exact rout_k4 p A n c x w hp h
  · exfalso; unfold cl at h; grind (splits := 40)
  · exfalso; unfold cl at h; grind (splits := 40)
  · exfalso; unfold cl at h; grind (splits := 40)
  · exfalso; unfold cl at h; grind (splits := 40)
  · exact rout_k9 p A n c x w hp h
  · exfalso; unfold cl at h; grind (splits := 40)

end Go.Proofs.YtnhnbblplnhmlaaGreatDoor
