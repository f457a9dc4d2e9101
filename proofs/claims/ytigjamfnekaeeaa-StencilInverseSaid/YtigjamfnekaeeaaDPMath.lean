/- Depth values and comparisons, in plain numbers. -/
import Derived.Test.YtigjamfnekaeeaaMath
namespace Go.Proofs.Ytigjamfnekaeeaa
set_option linter.unusedSimpArgs false

def dbits (f : Int) : Int := if f = 1 then 0 else if f = 2 then 16 else if f = 3 then 24 else -1

def dmax (f : Int) : Int := if f = 2 then 65535 else if f = 3 then 16777215 else 0

def dqz (f z : Int) : Int := rda (clampv z 0 65536 * dmax f) 65536

def dbias (z b : Int) : Int := clampv (clampv z (-65536) 131072 + clampv b (-65536) 65536) 0 65536

def cmpv (c a b : Int) : Bool :=
  if c = 2 then decide (a < b) else if c = 3 then decide (a = b) else if c = 4 then decide (a ≤ b) else if c = 5 then decide (b < a) else if c = 6 then decide (a ≠ b)
  else if c = 7 then decide (b ≤ a) else decide (c = 8)

def vcmp (c : Int) : Bool := decide (1 ≤ c ∧ c ≤ 8)

/-- What Test returns: whether the sample passes, and the stored value. -/
def tst (t wr : Bool) (c bi f z old : Int) : Bool × Int :=
  if t = false ∨ dbits f < 1 then (true, old) else if cmpv c (dqz f (dbias z bi)) old = true then (true, if wr = true then dqz f (dbias z bi) else old) else (false, old)

theorem f_cases (f : Int) : f = 1 ∨ f = 2 ∨ f = 3 ∨ (f ≠ 1 ∧ f ≠ 2 ∧ f ≠ 3) := by omega

theorem c_cases (c : Int) : c = 2 ∨ c = 3 ∨ c = 4 ∨ c = 5 ∨ c = 6 ∨ c = 7 ∨ c = 8 ∨ (c ≠ 2 ∧ c ≠ 3 ∧ c ≠ 4 ∧ c ≠ 5 ∧ c ≠ 6 ∧ c ≠ 7 ∧ c ≠ 8) := by omega

theorem dmax_bd (f : Int) : 0 ≤ dmax f ∧ dmax f ≤ 16777215 := by unfold dmax; split <;> (try split) <;> omega

theorem dprod_bd (f z : Int) : 0 ≤ clampv z 0 65536 * dmax f ∧ clampv z 0 65536 * dmax f ≤ 1099511562240 := by
  have h1 := clamp_one z
  have h2 := dmax_bd f
  refine ⟨Int.mul_nonneg h1.1 h2.1, ?_⟩
  have h3 : clampv z 0 65536 * dmax f ≤ 65536 * 16777215 := Int.mul_le_mul h1.2 h2.2 h2.1 (by omega)
  omega

theorem dqz_rdv (f z : Int) : dqz f z = rdv (clampv z 0 65536 * dmax f) 65536 := by
  have h := dprod_bd f z
  unfold dqz
  exact rda_in _ _ (by omega) (by omega) (by omega) (by omega)

theorem clamp_mono (a b lo hi : Int) (h : a ≤ b) : clampv a lo hi ≤ clampv b lo hi := by unfold clampv; grind

theorem dqz_mono (f a b : Int) (h : a ≤ b) : dqz f a ≤ dqz f b := by
  rw [dqz_rdv, dqz_rdv]
  exact rdv_mono _ _ _ (by omega) (dprod_bd f a).1 (Int.mul_le_mul_of_nonneg_right (clamp_mono _ _ _ _ h) (dmax_bd f).1)

theorem dqz_zero (f z : Int) (h : z ≤ 0) : dqz f z = 0 := by
  rw [dqz_rdv, show clampv z 0 65536 = 0 by unfold clampv; grind, Int.zero_mul, rdv_zero _ (by omega)]

theorem dqz_one (f z : Int) (h : 65536 ≤ z) : dqz f z = dmax f := by
  rw [dqz_rdv, show clampv z 0 65536 = 65536 by unfold clampv; grind, Int.mul_comm, rdv_mul _ _ (by omega) (dmax_bd f).1]

theorem dqz_bd (f z : Int) : 0 ≤ dqz f z ∧ dqz f z ≤ dmax f := by
  rcases Int.lt_or_le z 0 with h | h
  · rw [dqz_zero f z (by omega)]; have := dmax_bd f; omega
  · rcases Int.lt_or_le z 65536 with h2 | h2
    · have h3 := dqz_mono f 0 z h
      have h4 := dqz_mono f z 65536 (by omega)
      rw [dqz_zero f 0 (by omega)] at h3
      rw [dqz_one f 65536 (by omega)] at h4
      omega
    · rw [dqz_one f z h2]; have := dmax_bd f; omega

theorem dbias_bd (z b : Int) : 0 ≤ dbias z b ∧ dbias z b ≤ 65536 := by unfold dbias; exact clamp_one _

theorem dbias_ref (z b : Int) : clampv (clampv z (-131072) 131072 + clampv b (-65536) 65536) 0 65536 = dbias z b := by unfold dbias clampv; grind

theorem clamp_in (x lo hi : Int) (h : lo ≤ hi) : lo ≤ clampv x lo hi ∧ clampv x lo hi ≤ hi := by unfold clampv; grind

theorem dmax_bits (f : Int) : dbits f < 1 ↔ dmax f = 0 := by
  rcases f_cases f with rfl | rfl | rfl | ⟨h1, h2, h3⟩
  · decide
  · decide
  · decide
  · simp [dbits, dmax, h1, h2, h3]

end Go.Proofs.Ytigjamfnekaeeaa
