/- Nearest sampling gives a texel of the level, or the border. No function of a program is named here. -/
import Derived.Test.YtoipmldbjciinaaS11
namespace Go.Proofs.Ytoipmldbjciinaa
open Go.RowKit Go.Sort
set_option linter.unusedVariables false

/-- The sampler with both modes clamped to the edge. -/
def edg (s : Nat → Int) (i : Nat) : Int := if i = 0 then 3 else if i = 1 then 3 else s i

theorem edg_SV {s : Nat → Int} (h : SV s) : SV (edg s) := by
  obtain ⟨⟨h0, h1, h2⟩, hb, hl⟩ := h
  have q0 : edg s 0 = 3 := rfl
  have q1 : edg s 1 = 3 := rfl
  exact ⟨⟨⟨by rw [q0]; omega, by rw [q0]; omega⟩, ⟨by rw [q1]; omega, by rw [q1]; omega⟩, h2⟩, hb, hl⟩

theorem idxv_neg {m i n : Int} (h : 1 ≤ n ∧ n ≤ 64) (hm : 1 ≤ m ∧ m ≤ 4) (h4 : m ≠ 4) : 0 ≤ idxv m i n := by
  have h1 := modv_rng i n h.1
  have h2 := modv_rng i (2 * n) (by omega)
  unfold idxv
  rw [if_pos h]
  repeat' split
  all_goals omega

/-- Where nearest sampling is no border's color, a texel has it. -/
theorem nearest_in {ts : List Tx} {s : Nat → Int} {u v : Int} (hc : can ts s 0) (hz : (s 0 ≠ 4 ∧ s 1 ≠ 4) ∨ ¬ (∀ i, i < 4 → slv ts s u v 0 1 i = s (5 + i))) :
    ∃ X Y : Nat, (X : Int) < (lvl ts 0).w ∧ (Y : Int) < (lvl ts 0).h ∧ ∀ i, stx ts (edg s) X Y 0 i = slv ts s u v 0 1 i := by
  have hok := can_ok hc
  have hw := hok.2.1
  have hh := hok.2.2.1
  obtain ⟨⟨⟨m0, m1, _⟩, _, _⟩, _⟩ := id hc.2
  have hce : can ts (edg s) 0 := ⟨hc.1, edg_SV hc.2.1, hc.2.2⟩
  have hs : ∀ i, slv ts s u v 0 1 i = col ts s (sat u * (lvl ts 0).w / 65536) (sat v * (lvl ts 0).h / 65536) 0 i := fun i => by
    unfold slv
    rw [if_pos hc, if_pos rfl]
  generalize sat u * (lvl ts 0).w / 65536 = x at *
  generalize sat v * (lvl ts 0).h / 65536 = y at *
  have hn : ¬ (idxv (s 0) x (lvl ts 0).w < 0 ∨ idxv (s 1) y (lvl ts 0).h < 0) := by
    intro h
    rcases hz with ⟨h0, h1⟩ | hz
    · have k0 := idxv_neg (i := x) hw m0 h0
      have k1 := idxv_neg (i := y) hh m1 h1
      omega
    · refine hz fun i hi => ?_
      rw [hs i]
      exact if_pos h
  have r0 := idxv_rng (s 0) x _ hw
  have r1 := idxv_rng (s 1) y _ hh
  refine ⟨(idxv (s 0) x (lvl ts 0).w).toNat, (idxv (s 1) y (lvl ts 0).h).toNat, by omega, by omega, fun i => ?_⟩
  have e0 : ((idxv (s 0) x (lvl ts 0).w).toNat : Int) = idxv (s 0) x (lvl ts 0).w := by omega
  have e1 : ((idxv (s 1) y (lvl ts 0).h).toNat : Int) = idxv (s 1) y (lvl ts 0).h := by omega
  rw [hs i, e0, e1]
  unfold stx
  rw [if_pos hce]
  have q0 : edg s 0 = 3 := rfl
  have q1 : edg s 1 = 3 := rfl
  unfold col
  rw [if_neg hn, q0, q1, inside_in hw (by omega) (by omega), inside_in hh (by omega) (by omega), if_neg hn]

theorem nearest_no {ts : List Tx} {s : Nat → Int} {u v : Int} (h : ¬ can ts s 0) : slv ts s u v 0 1 = fun _ => 0 := by funext i; exact slv_no h i

end Go.Proofs.Ytoipmldbjciinaa
