/- At a texel's center linear filtering gives the texel. No function of a program is named here. -/
import Derived.Test.YtoipmldbjciinaaSMath
import Derived.Test.YtoipmldbjciinaaLMath
namespace Go.Proofs.Ytoipmldbjciinaa
open Go.RowKit Go.Sort
set_option linter.unusedVariables false

theorem lerpv_0 (a b : Int) : lerpv a b 0 = sat a := by
  unfold lerpv
  rw [show clampv 0 0 65536 = 0 by decide, mulv_zero, addv_zero]

theorem col_sat {ts : List Tx} {s : Nat → Int} {x y k : Int} {i : Nat} (hs : SV s) (hi : i < 4) : sat (col ts s x y k i) = col ts s x y k i := by
  have h : -536870911 ≤ col ts s x y k i ∧ col ts s x y k i ≤ 536870911 := by
    unfold col
    split
    · obtain ⟨_, ⟨h0, h1, h2, h3⟩, _⟩ := hs
      match i, hi with
      | 0, _ => simp only [Nat.add_zero]; omega
      | 1, _ => show -536870911 ≤ s 6 ∧ s 6 ≤ 536870911; omega
      | 2, _ => show -536870911 ≤ s 7 ∧ s 7 ≤ 536870911; omega
      | 3, _ => show -536870911 ≤ s 8 ∧ s 8 ≤ 536870911; omega
    · unfold tgt
      split
      · exact get_bd _ _ _ _
      · omega
  exact sat_id _ h.1 h.2

theorem center {t q m : Int} (hq : q = 32768 ∧ m = 1 ∨ q = 16384 ∧ m = 2 ∨ q = 8192 ∧ m = 4 ∨ q = 4096 ∧ m = 8) (h : -99 ≤ t ∧ t ≤ 99) : sat ((2 * t + 1) * q) * m = t * 65536 + 32768 := by
  have hs : sat ((2 * t + 1) * q) = (2 * t + 1) * q := by
    rcases hq with ⟨rfl, rfl⟩ | ⟨rfl, rfl⟩ | ⟨rfl, rfl⟩ | ⟨rfl, rfl⟩ <;> exact sat_id _ (by omega) (by omega)
  rw [hs]
  rcases hq with ⟨rfl, rfl⟩ | ⟨rfl, rfl⟩ | ⟨rfl, rfl⟩ | ⟨rfl, rfl⟩ <;> omega

theorem grid_lin {ts : List Tx} {s : Nat → Int} {a b qw qh : Int} (i : Nat) (hi : i < 4) (ha : -99 ≤ a ∧ a ≤ 99) (hb : -99 ≤ b ∧ b ≤ 99)
    (hw : qw = 32768 ∧ (lvl ts 0).w = 1 ∨ qw = 16384 ∧ (lvl ts 0).w = 2 ∨ qw = 8192 ∧ (lvl ts 0).w = 4 ∨ qw = 4096 ∧ (lvl ts 0).w = 8) (hh : qh = 32768 ∧ (lvl ts 0).h = 1 ∨ qh = 16384 ∧ (lvl ts 0).h = 2 ∨ qh = 8192 ∧ (lvl ts 0).h = 4 ∨ qh = 4096 ∧ (lvl ts 0).h = 8) :
    slv ts s ((2 * a + 1) * qw) ((2 * b + 1) * qh) 0 2 i = stx ts s a b 0 i ∧ slv ts s ((2 * a + 1) * qw) ((2 * b + 1) * qh) 0 1 i = stx ts s a b 0 i := by
  unfold slv stx
  by_cases hc : can ts s 0
  · rw [if_pos hc, if_pos hc, if_pos hc, center hw ha, center hh hb, if_neg (by decide), if_pos rfl, if_pos rfl]
    have hs := hc.2.1
    have e1 : a * 65536 + 32768 - 32768 = a * 65536 := by omega
    have e2 : b * 65536 + 32768 - 32768 = b * 65536 := by omega
    have e3 : a * 65536 / 65536 = a := by omega
    have e4 : b * 65536 / 65536 = b := by omega
    have e5 : a * 65536 % 65536 = 0 := by omega
    have e6 : b * 65536 % 65536 = 0 := by omega
    have e7 : (a * 65536 + 32768) / 65536 = a := by omega
    have e8 : (b * 65536 + 32768) / 65536 = b := by omega
    refine ⟨?_, by rw [e7, e8]⟩
    unfold btw
    rw [e1, e2, e3, e4, e5, e6, lerpv_0, lerpv_0, sat_sat, col_sat hs hi]
  · rw [if_neg hc, if_neg hc, if_neg hc]
    exact ⟨rfl, rfl⟩

end Go.Proofs.Ytoipmldbjciinaa
