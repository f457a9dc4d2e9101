/- What Area, IsFront, Keep of package cull and of the reference return; the example. -/
import Derived.Test.YtcnemjkcihlpeaaCU1
namespace Go.Proofs.Ytcnemjkcihlpeaa
set_option linter.unusedSimpArgs false
open Go.RowKit Go.Sort Go.ChangeShapes Go.WideShapes
set_option linter.unusedVariables false

theorem prod_bd (a b M : Int) (ha : -M ≤ a ∧ a ≤ M) (hb : -M ≤ b ∧ b ≤ M) : -(M * M) ≤ a * b ∧ a * b ≤ M * M := by
  have h1 : (a * b).natAbs ≤ M.natAbs * M.natAbs := by rw [Int.natAbs_mul]; exact Nat.mul_le_mul (by omega) (by omega)
  have h2 : ((M.natAbs * M.natAbs : Nat) : Int) = M * M := by rw [Int.natCast_mul]; rw [Int.natAbs_of_nonneg (by omega)]
  omega

theorem inr_yes {v : SV} (h : inr v = true) : 0 ≤ v.x ∧ v.x ≤ 16384 ∧ 0 ≤ v.y ∧ v.y ≤ 16384 := of_decide_eq_true h

theorem inr3_yes {a b c : SV} (h : inr3 a b c = true) : inr a = true ∧ inr b = true ∧ inr c = true := by
  unfold inr3 at h
  simp only [Bool.and_eq_true] at h
  exact ⟨h.1.1, h.1.2, h.2⟩

theorem area_prods {a b c : SV} (h : inr3 a b c = true) : (-268435456 ≤ (b.x - a.x) * (c.y - a.y) ∧ (b.x - a.x) * (c.y - a.y) ≤ 268435456) ∧ (-268435456 ≤ (b.y - a.y) * (c.x - a.x) ∧ (b.y - a.y) * (c.x - a.x) ≤ 268435456) := by
  obtain ⟨h1, h2, h3⟩ := inr3_yes h
  have a1 := inr_yes h1
  have a2 := inr_yes h2
  have a3 := inr_yes h3
  exact ⟨prod_bd _ _ 16384 (by omega) (by omega), prod_bd _ _ 16384 (by omega) (by omega)⟩

theorem areav_bd (a b c : SV) : -536870912 ≤ areav a b c ∧ areav a b c ≤ 536870912 := by
  by_cases h : inr3 a b c = true
  · unfold areav
    rw [if_pos h]
    have := area_prods h
    omega
  · unfold areav
    rw [if_neg h]
    omega

set_option maxRecDepth 100000 in
set_option maxHeartbeats 1000000 in
theorem area_b (a b c : SV) (w : World) : Calls Try.prog 36 #[.agg #[.int .i64 a.x, .int .i64 a.y, .int .i64 a.z, .int .i64 a.q, .slice a.A a.n a.c, .int .i64 b.x, .int .i64 b.y, .int .i64 b.z, .int .i64 b.q, .slice b.A b.n b.c, .int .i64 c.x, .int .i64 c.y, .int .i64 c.z, .int .i64 c.q, .slice c.A c.n c.c]] w fun e w' => e = .returned (.int .i64 (areav a b c)) ∧ Below w.heap.size w w' := by
  have X0 := EBox.made w #[.int .i64 a.x, .int .i64 a.y, .int .i64 a.z, .int .i64 a.q, .slice a.A a.n a.c, .int .i64 b.x, .int .i64 b.y, .int .i64 b.z, .int .i64 b.q, .slice b.A b.n b.c, .int .i64 c.x, .int .i64 c.y, .int .i64 c.z, .int .i64 c.q, .slice c.A c.n c.c] 34
  have r0 : (w.alloc (.cells #[.int .i64 a.x, .int .i64 a.y, .int .i64 a.z, .int .i64 a.q, .slice a.A a.n a.c, .int .i64 b.x, .int .i64 b.y, .int .i64 b.z, .int .i64 b.q, .slice b.A b.n b.c, .int .i64 c.x, .int .i64 c.y, .int .i64 c.z, .int .i64 c.q, .slice c.A c.n c.c] 34)).rangeAt w.heap.size 0 _ := X0.1
  have BB := box_below w #[.int .i64 a.x, .int .i64 a.y, .int .i64 a.z, .int .i64 a.q, .slice a.A a.n a.c, .int .i64 b.x, .int .i64 b.y, .int .i64 b.z, .int .i64 b.q, .slice b.A b.n b.c, .int .i64 c.x, .int .i64 c.y, .int .i64 c.z, .int .i64 c.q, .slice c.A c.n c.c] 34
  have c0 := X0.cell (i := 0) rfl
  have c1 := X0.cell (i := 1) rfl
  have c5 := X0.cell (i := 5) rfl
  have c6 := X0.cell (i := 6) rfl
  have c10 := X0.cell (i := 10) rfl
  have c11 := X0.cell (i := 11) rfl
  have CI := Lib.hid (fun W => inRange_b a b c W)
  clear X0
  by_cases h : inr3 a b c = true
  · have hp := area_prods h
    obtain ⟨h1, h2, h3⟩ := inr3_yes h
    have a1 := inr_yes h1
    have a2 := inr_yes h2
    have a3 := inr_yes h3
    rw [h] at CI
    have hv : Hid (areav a b c = (b.x - a.x) * (c.y - a.y) - (b.y - a.y) * (c.x - a.x)) := Lib.hid (by unfold areav; rw [if_pos h])
    clear h h1 h2 h3
    go_enter Try.func36, Try.ntmps36
    go_wp2_with (first | ((with_reducible refine eload15L rk_t3 r0 ?_ ?_); focus rfl) | (first | (go_at_call 41; refine (CI.out _).mono ?_; rintro _ _ ⟨rfl, B⟩; replace BB := bon BB B; replace c0 := cell_below B c0; replace c1 := cell_below B c1; replace c5 := cell_below B c5; replace c6 := cell_below B c6; replace c10 := cell_below B c10; replace c11 := cell_below B c11)))
    go_ret
    exact ⟨ret_int hv.out.symm, BB⟩
  · have hv : Hid (areav a b c = 0) := Lib.hid (by unfold areav; rw [if_neg h])
    rw [eq_false_of_ne_true h] at CI
    clear h
    go_enter Try.func36, Try.ntmps36
    go_wp2_with (first | ((with_reducible refine eload15L rk_t3 r0 ?_ ?_); focus rfl) | (first | (go_at_call 41; refine (CI.out _).mono ?_; rintro _ _ ⟨rfl, B⟩; replace BB := bon BB B; replace c0 := cell_below B c0; replace c1 := cell_below B c1; replace c5 := cell_below B c5; replace c6 := cell_below B c6; replace c10 := cell_below B c10; replace c11 := cell_below B c11)))
    go_ret
    exact ⟨ret_int hv.out.symm, BB⟩

/-- A front face? -/
def frontv (n : Int) (cw : Bool) : Bool := if cw = true then decide (0 < n) else decide (n < 0)

/-- Drawn? -/
def keepv (n m : Int) (cw : Bool) : Bool := if n = 0 then false else if m = 1 then true else if m = 2 then !frontv n cw else if m = 3 then frontv n cw else false

theorem m_cases (m : Int) : m = 1 ∨ m = 2 ∨ m = 3 ∨ (m ≠ 1 ∧ m ≠ 2 ∧ m ≠ 3) := by omega

end Go.Proofs.Ytcnemjkcihlpeaa
