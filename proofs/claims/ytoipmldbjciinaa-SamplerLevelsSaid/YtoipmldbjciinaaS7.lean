/- The reference of samplers: level, split, texel, Texel, LevelOfDetail, SampleLevel, Sample. -/
import Derived.Test.YtoipmldbjciinaaS1r
import Derived.Test.YtoipmldbjciinaaS4
import Derived.Test.YtoipmldbjciinaaL11
namespace Go.Proofs.Ytoipmldbjciinaa
open Go.RowKit Go.Sort Go.ChangeShapes Go.WideShapes
set_option linter.unusedVariables false

theorem rslod_b (s : Nat → Int) (l : Int) (w : World) : Calls Try.prog 9 #[.agg (smps s), .int .i64 l] w fun e w' => e = .returned (.int .i64 (lodv s l)) ∧ Below w.heap.size w w' := by
  have BB := box_below w (smps s) 27
  have S0 := smp_box w s 27
  have cs := fun W => rsval_b s W
  unfold lodv
  by_cases h : SV s
  · rw [if_pos h]
    rw [decide_eq_true h] at cs
    have CS := Lib.hid cs
    clear cs h
    go_enter Try.func9, Try.ntmps9
    go_wp2_with (first
      | (refine wpList_sload rfl _ _ rfl smpT S0 rfl ?_)
      | (go_at_call 21; (with_reducible refine (CS.out _).mono ?_); rintro _ V1 ⟨rfl, B⟩; (replace BB := bon BB B; replace S0 := smp_below B S0); clear B))
    have k_S0 := smp_regrown S0
    refine wp_region_quiet_below (by kernel_rfl) (by kernel_rfl) ?_
    repeat (first | (go_big_quiet_want; refine quiet_sload _ _ rfl smpT (fun W hW => smp_class S0 hW) rfl ?_; go_simp; go_big_quiet_on) | (go_big_quiet_want; refine quiet_bload _ _ rfl bordT (fun W hW => smp_class S0 hW) rfl ?_; go_simp; go_big_quiet_on) | go_big_quiet_step ((first | (go_at_call 23; exact Calls.regrown_of (radd_b _ _ _)) | (go_at_call 22; exact Calls.regrown_of (rclamp_b _ _ _ _)))) | quiet_step ((first | (go_at_call 23; exact Calls.regrown_of (radd_b _ _ _)) | (go_at_call 22; exact Calls.regrown_of (rclamp_b _ _ _ _)))))
    refine wpQuiet_nil ?_
    intro W hw'
    have B := below_regrown' hw'
    clear hw' k_S0
    replace BB := bon BB B
    replace S0 := smp_below B S0
    go_wp2
    go_ret
    exact ⟨rfl, BB⟩
  · rw [if_neg h]
    rw [decide_eq_false h] at cs
    have CS := Lib.hid cs
    clear cs h
    go_enter Try.func9, Try.ntmps9
    go_wp2_with (first
      | (refine wpList_sload rfl _ _ rfl smpT S0 rfl ?_)
      | (go_at_call 21; (with_reducible refine (CS.out _).mono ?_); rintro _ V1 ⟨rfl, B⟩; (replace BB := bon BB B; replace S0 := smp_below B S0); clear B))
    go_ret
    exact ⟨rfl, BB⟩

section
variable {P : Program} {ops : Array Oper} {Q : Exit → Act → World → Prop} {rest : List Oper} {op : Oper} {a : Act} {W : World} {b : Nat} {x0 x1 x2 x3 : Int}
/-- A vector loaded. -/
theorem wpList_vloadT (hg : op.guard = none) (ty : TypeId) (x : Operand) (ho : op.op = .load ty x) (T : RowT P ty 4) (k : VecAt W b x0 x1 x2 x3)
    (hx : a.eval x = .pointer (some ⟨b, 0, none⟩)) (H : wpList P ops Q rest (a.put op.dst (.agg #[.int .i64 x0, .int .i64 x1, .int .i64 x2, .int .i64 x3])) W) : wpList P ops Q (op :: rest) a W := by
  obtain ⟨⟨d, h1, h2⟩, h3⟩ := T
  refine wpList_load_mid hg ty x ho b 0 hx [.int .i64 x0, .int .i64 x1, .int .i64 x2, .int .i64 x3] d (fun j v hv => ?_) h1 h2 h3 H
  match j, hv with
  | 0, hv => simp at hv; subst hv; exact k.1
  | 1, hv => simp at hv; subst hv; exact k.2.1
  | 2, hv => simp at hv; subst hv; exact k.2.2.1
  | 3, hv => simp at hv; subst hv; exact k.2.2.2
end

/-- The states of a region. -/
def rdDag : Dag := ⟨[[], [5], [15], [5, 12], [5, 15], [5, 12, 14], [5, 12, 15], [5, 12, 14, 15], [5, 12, 14, 15, 16]], [[(5, 1), (15, 2)], [(12, 3), (15, 4)], [(5, 4)], [(14, 5), (15, 6)], [(12, 6)], [(15, 7)], [(14, 7)], [(16, 8)], []], [5, 4, 4, 3, 3, 2, 2, 1, 0]⟩

def rdR (a0 : Act) (A : Option Addr) (n c : Nat) (s : Nat → Int) (x y lv fx : Int) (va vb vu : Nat → Int) : Act :=
  ((((((((((((a0.put (some 84) (.agg #[.slice A n c])).put (some 85) (.agg (smps s))).put (some 86) (.int .i64 x)).put (some 87) (.int .i64 y)).put (some 88) (.int .i64 lv)).put (some 90) (.agg #[.slice A n c])).put (some 91) (.agg (smps s))).put (some 92) (.int .i64 x)).put (some 93) (.int .i64 (x + 1))).put (some 94) (.int .i64 y)).put (some 95) (.int .i64 lv)).put (some 97) (.int .i64 fx))

@[reducible] def rdSt (w0 : World) (A : Option Addr) (n c : Nat) (s : Nat → Int) (x y lv fx : Int) (va vb vu : Nat → Int) (k : Nat) (a0 a' : Act) (W : World) : Prop := match k with
  | 0 => ∃ b23 : Nat, a' = (rdR a0 A n c s x y lv fx va vb vu) ∧ Below w0.heap.size w0 W
  | 1 => ∃ b23 : Nat, a' = ((rdR a0 A n c s x y lv fx va vb vu).put (some 89) (.agg #[.int .i64 (va 0), .int .i64 (va 1), .int .i64 (va 2), .int .i64 (va 3)])) ∧ Below w0.heap.size w0 W
  | 2 => ∃ b23 : Nat, a' = ((rdR a0 A n c s x y lv fx va vb vu).put (some 23) (.pointer (some ⟨b23, 0, none⟩))) ∧ Below w0.heap.size w0 W ∧ VBox W b23 0 0 0 0 ∧ w0.heap.size ≤ b23
  | 3 => ∃ b23 : Nat, a' = (((rdR a0 A n c s x y lv fx va vb vu).put (some 89) (.agg #[.int .i64 (va 0), .int .i64 (va 1), .int .i64 (va 2), .int .i64 (va 3)])).put (some 96) (.agg #[.int .i64 (vb 0), .int .i64 (vb 1), .int .i64 (vb 2), .int .i64 (vb 3)])) ∧ Below w0.heap.size w0 W
  | 4 => ∃ b23 : Nat, a' = (((rdR a0 A n c s x y lv fx va vb vu).put (some 89) (.agg #[.int .i64 (va 0), .int .i64 (va 1), .int .i64 (va 2), .int .i64 (va 3)])).put (some 23) (.pointer (some ⟨b23, 0, none⟩))) ∧ Below w0.heap.size w0 W ∧ VBox W b23 0 0 0 0 ∧ w0.heap.size ≤ b23
  | 5 => ∃ b23 : Nat, a' = ((((rdR a0 A n c s x y lv fx va vb vu).put (some 89) (.agg #[.int .i64 (va 0), .int .i64 (va 1), .int .i64 (va 2), .int .i64 (va 3)])).put (some 96) (.agg #[.int .i64 (vb 0), .int .i64 (vb 1), .int .i64 (vb 2), .int .i64 (vb 3)])).put (some 98) (.agg #[.int .i64 (vu 0), .int .i64 (vu 1), .int .i64 (vu 2), .int .i64 (vu 3)])) ∧ Below w0.heap.size w0 W
  | 6 => ∃ b23 : Nat, a' = ((((rdR a0 A n c s x y lv fx va vb vu).put (some 89) (.agg #[.int .i64 (va 0), .int .i64 (va 1), .int .i64 (va 2), .int .i64 (va 3)])).put (some 96) (.agg #[.int .i64 (vb 0), .int .i64 (vb 1), .int .i64 (vb 2), .int .i64 (vb 3)])).put (some 23) (.pointer (some ⟨b23, 0, none⟩))) ∧ Below w0.heap.size w0 W ∧ VBox W b23 0 0 0 0 ∧ w0.heap.size ≤ b23
  | 7 => ∃ b23 : Nat, a' = (((((rdR a0 A n c s x y lv fx va vb vu).put (some 89) (.agg #[.int .i64 (va 0), .int .i64 (va 1), .int .i64 (va 2), .int .i64 (va 3)])).put (some 96) (.agg #[.int .i64 (vb 0), .int .i64 (vb 1), .int .i64 (vb 2), .int .i64 (vb 3)])).put (some 98) (.agg #[.int .i64 (vu 0), .int .i64 (vu 1), .int .i64 (vu 2), .int .i64 (vu 3)])).put (some 23) (.pointer (some ⟨b23, 0, none⟩))) ∧ Below w0.heap.size w0 W ∧ VBox W b23 0 0 0 0 ∧ w0.heap.size ≤ b23
  | 8 => ∃ b23 : Nat, a' = (((((rdR a0 A n c s x y lv fx va vb vu).put (some 89) (.agg #[.int .i64 (va 0), .int .i64 (va 1), .int .i64 (va 2), .int .i64 (va 3)])).put (some 96) (.agg #[.int .i64 (vb 0), .int .i64 (vb 1), .int .i64 (vb 2), .int .i64 (vb 3)])).put (some 98) (.agg #[.int .i64 (vu 0), .int .i64 (vu 1), .int .i64 (vu 2), .int .i64 (vu 3)])).put (some 23) (.pointer (some ⟨b23, 0, none⟩))) ∧ Below w0.heap.size w0 W ∧ VBox W b23 (vu 0) (vu 1) (vu 2) (vu 3) ∧ w0.heap.size ≤ b23
  | _ => False

/-- The states of a region. -/
def reDag : Dag := ⟨[[], [6], [17], [6, 14], [6, 17], [6, 14, 16], [6, 14, 17], [6, 14, 16, 17], [6, 14, 16, 17, 18]], [[(6, 1), (17, 2)], [(14, 3), (17, 4)], [(6, 4)], [(16, 5), (17, 6)], [(14, 6)], [(17, 7)], [(16, 7)], [(18, 8)], []], [5, 4, 4, 3, 3, 2, 2, 1, 0]⟩

def reR (a0 : Act) (A : Option Addr) (n c : Nat) (s : Nat → Int) (x y lv fx : Int) (va vb vu : Nat → Int) : Act :=
  ((((((((((((((a0.put (some 99) (.agg #[.slice A n c])).put (some 100) (.agg (smps s))).put (some 101) (.int .i64 x)).put (some 102) (.int .i64 y)).put (some 103) (.int .i64 (y + 1))).put (some 104) (.int .i64 lv)).put (some 106) (.agg #[.slice A n c])).put (some 107) (.agg (smps s))).put (some 108) (.int .i64 x)).put (some 109) (.int .i64 (x + 1))).put (some 110) (.int .i64 y)).put (some 111) (.int .i64 (y + 1))).put (some 112) (.int .i64 lv)).put (some 114) (.int .i64 fx))

@[reducible] def reSt (w0 : World) (A : Option Addr) (n c : Nat) (s : Nat → Int) (x y lv fx : Int) (va vb vu : Nat → Int) (k : Nat) (a0 a' : Act) (W : World) : Prop := match k with
  | 0 => ∃ b24 : Nat, a' = (reR a0 A n c s x y lv fx va vb vu) ∧ Below w0.heap.size w0 W
  | 1 => ∃ b24 : Nat, a' = ((reR a0 A n c s x y lv fx va vb vu).put (some 105) (.agg #[.int .i64 (va 0), .int .i64 (va 1), .int .i64 (va 2), .int .i64 (va 3)])) ∧ Below w0.heap.size w0 W
  | 2 => ∃ b24 : Nat, a' = ((reR a0 A n c s x y lv fx va vb vu).put (some 24) (.pointer (some ⟨b24, 0, none⟩))) ∧ Below w0.heap.size w0 W ∧ VBox W b24 0 0 0 0 ∧ w0.heap.size ≤ b24
  | 3 => ∃ b24 : Nat, a' = (((reR a0 A n c s x y lv fx va vb vu).put (some 105) (.agg #[.int .i64 (va 0), .int .i64 (va 1), .int .i64 (va 2), .int .i64 (va 3)])).put (some 113) (.agg #[.int .i64 (vb 0), .int .i64 (vb 1), .int .i64 (vb 2), .int .i64 (vb 3)])) ∧ Below w0.heap.size w0 W
  | 4 => ∃ b24 : Nat, a' = (((reR a0 A n c s x y lv fx va vb vu).put (some 105) (.agg #[.int .i64 (va 0), .int .i64 (va 1), .int .i64 (va 2), .int .i64 (va 3)])).put (some 24) (.pointer (some ⟨b24, 0, none⟩))) ∧ Below w0.heap.size w0 W ∧ VBox W b24 0 0 0 0 ∧ w0.heap.size ≤ b24
  | 5 => ∃ b24 : Nat, a' = ((((reR a0 A n c s x y lv fx va vb vu).put (some 105) (.agg #[.int .i64 (va 0), .int .i64 (va 1), .int .i64 (va 2), .int .i64 (va 3)])).put (some 113) (.agg #[.int .i64 (vb 0), .int .i64 (vb 1), .int .i64 (vb 2), .int .i64 (vb 3)])).put (some 115) (.agg #[.int .i64 (vu 0), .int .i64 (vu 1), .int .i64 (vu 2), .int .i64 (vu 3)])) ∧ Below w0.heap.size w0 W
  | 6 => ∃ b24 : Nat, a' = ((((reR a0 A n c s x y lv fx va vb vu).put (some 105) (.agg #[.int .i64 (va 0), .int .i64 (va 1), .int .i64 (va 2), .int .i64 (va 3)])).put (some 113) (.agg #[.int .i64 (vb 0), .int .i64 (vb 1), .int .i64 (vb 2), .int .i64 (vb 3)])).put (some 24) (.pointer (some ⟨b24, 0, none⟩))) ∧ Below w0.heap.size w0 W ∧ VBox W b24 0 0 0 0 ∧ w0.heap.size ≤ b24
  | 7 => ∃ b24 : Nat, a' = (((((reR a0 A n c s x y lv fx va vb vu).put (some 105) (.agg #[.int .i64 (va 0), .int .i64 (va 1), .int .i64 (va 2), .int .i64 (va 3)])).put (some 113) (.agg #[.int .i64 (vb 0), .int .i64 (vb 1), .int .i64 (vb 2), .int .i64 (vb 3)])).put (some 115) (.agg #[.int .i64 (vu 0), .int .i64 (vu 1), .int .i64 (vu 2), .int .i64 (vu 3)])).put (some 24) (.pointer (some ⟨b24, 0, none⟩))) ∧ Below w0.heap.size w0 W ∧ VBox W b24 0 0 0 0 ∧ w0.heap.size ≤ b24
  | 8 => ∃ b24 : Nat, a' = (((((reR a0 A n c s x y lv fx va vb vu).put (some 105) (.agg #[.int .i64 (va 0), .int .i64 (va 1), .int .i64 (va 2), .int .i64 (va 3)])).put (some 113) (.agg #[.int .i64 (vb 0), .int .i64 (vb 1), .int .i64 (vb 2), .int .i64 (vb 3)])).put (some 115) (.agg #[.int .i64 (vu 0), .int .i64 (vu 1), .int .i64 (vu 2), .int .i64 (vu 3)])).put (some 24) (.pointer (some ⟨b24, 0, none⟩))) ∧ Below w0.heap.size w0 W ∧ VBox W b24 (vu 0) (vu 1) (vu 2) (vu 3) ∧ w0.heap.size ≤ b24
  | _ => False

end Go.Proofs.Ytoipmldbjciinaa
