/- The plain arithmetic of small floating-point formats: the number of a pattern, the nearest pattern of a number. No program is named here. -/
import Derived.Test.YtfakmeimideoaaaMini3
namespace Go.Proofs.Ytfakmeimideoaaa
open Go.RowKit

/-! ### V: the number of a pattern without sign, times 2^24; the exponent has no limit -/
def vj (m p : Int) : Int := if 1 < p / pw m then p / pw m else 1
def V (e m p : Int) : Int := (p - (vj m p - 1) * pw m) * pw (24 - biasv e - m + vj m p)

theorem vj_pos (m p : Int) : 1 ≤ vj m p := by unfold vj; split <;> omega

theorem pw_even (m : Int) (h : 1 ≤ m) : ∃ k, pw m = 2 * k ∧ 1 ≤ k := by
  refine ⟨pw (m - 1), ?_, pw_pos _⟩
  rw [← pw_succ (m - 1) (by omega)]; congr 1; omega

theorem vj_rep (m p : Int) (h : 0 ≤ p) : 0 ≤ p - (vj m p - 1) * pw m ∧ p - (vj m p - 1) * pw m < 2 * pw m ∧ (vj m p = 1 ∨ pw m ≤ p - (vj m p - 1) * pw m) := by
  have b := pw_pos m
  have r0 := Int.emod_nonneg p (b := pw m) (by omega)
  have r1 := Int.emod_lt_of_pos p (b := pw m) (by omega)
  have e := Int.mul_ediv_add_emod p (pw m)
  have q0 : 0 ≤ p / pw m := Int.ediv_nonneg h (by omega)
  unfold vj
  split
  · rename_i h1
    have : (p / pw m - 1) * pw m = pw m * (p / pw m) - pw m := by rw [Int.sub_mul, Int.mul_comm]; omega
    omega
  · have h0 : p / pw m = 0 ∨ p / pw m = 1 := by omega
    rcases h0 with h0 | h0 <;> rw [h0] at e <;> omega

theorem V_rep (e m j q : Int) (hc : -1 ≤ 24 - biasv e - m) (hj : 1 ≤ j) (h0 : 0 ≤ q) (h1 : q ≤ 2 * pw m) (h2 : j = 1 ∨ pw m ≤ q) : V e m ((j - 1) * pw m + q) = q * pw (24 - biasv e - m + j) := by
  have b := pw_pos m
  rcases Int.lt_or_le q (pw m) with hq | hq
  · obtain rfl : j = 1 := by omega
    have e1 : ((1 : Int) - 1) * pw m + q = q := by omega
    have e2 : q / pw m = 0 := Int.ediv_eq_zero_of_lt h0 hq
    have e3 : vj m q = 1 := by unfold vj; rw [e2]; rfl
    rw [e1]; unfold V; rw [e3]; congr 1; omega
  · rcases Int.lt_or_le q (2 * pw m) with hq2 | hq2
    · have e2 : ((j - 1) * pw m + q) / pw m = j := by
        rw [show (j - 1) * pw m + q = (q - pw m) + j * pw m by rw [Int.sub_mul]; omega, Int.add_mul_ediv_right _ _ (by omega), Int.ediv_eq_zero_of_lt (by omega) (by omega)]; omega
      have e3 : vj m ((j - 1) * pw m + q) = j := by unfold vj; rw [e2]; split <;> omega
      unfold V; rw [e3]; congr 1; omega
    · obtain rfl : q = 2 * pw m := by omega
      have e2 : ((j - 1) * pw m + 2 * pw m) / pw m = j + 1 := by
        rw [show (j - 1) * pw m + 2 * pw m = 0 + (j + 1) * pw m by rw [Int.sub_mul, Int.add_mul]; omega, Int.add_mul_ediv_right _ _ (by omega), Int.zero_ediv]; omega
      have e3 : vj m ((j - 1) * pw m + 2 * pw m) = j + 1 := by unfold vj; rw [e2]; split <;> omega
      unfold V; rw [e3]
      rw [show 24 - biasv e - m + (j + 1) = (24 - biasv e - m + j) + 1 by omega, pw_succ _ (by omega)]
      rw [show (j - 1) * pw m + 2 * pw m - (j + 1 - 1) * pw m = pw m by rw [Int.sub_mul, Int.sub_mul, Int.add_mul]; omega]
      rw [← Int.mul_assoc, Int.mul_comm (pw m) 2]

theorem V_succ (e m p : Int) (hc : -1 ≤ 24 - biasv e - m) (h : 0 ≤ p) : V e m (p + 1) = V e m p + pw (24 - biasv e - m + vj m p) := by
  obtain ⟨h0, h1, h2⟩ := vj_rep m p h
  have hj := vj_pos m p
  have e1 := V_rep e m (vj m p) (p - (vj m p - 1) * pw m + 1) hc hj (by omega) (by omega) (by omega)
  rw [show (vj m p - 1) * pw m + (p - (vj m p - 1) * pw m + 1) = p + 1 by omega] at e1
  rw [e1, Int.add_mul]; unfold V; omega

theorem V_lt_add (e m p : Int) (hc : -1 ≤ 24 - biasv e - m) (h : 0 ≤ p) : ∀ k : Nat, V e m p < V e m (p + (k + 1 : Nat)) := by
  intro k
  induction k with
  | zero => have := V_succ e m p hc h; have := pw_pos (24 - biasv e - m + vj m p); simp only [Nat.zero_add, Int.natCast_one]; omega
  | succ k ih =>
    have h1 := V_succ e m (p + (k + 1 : Nat)) hc (by omega)
    have := pw_pos (24 - biasv e - m + vj m (p + (k + 1 : Nat)))
    rw [show p + ((k + 1 + 1 : Nat) : Int) = p + ((k + 1 : Nat) : Int) + 1 by omega]; omega
theorem V_lt (e m p p' : Int) (hc : -1 ≤ 24 - biasv e - m) (h : 0 ≤ p) (hp : p < p') : V e m p < V e m p' := by
  have := V_lt_add e m p hc h (p' - p - 1).toNat
  rwa [show p + (((p' - p - 1).toNat + 1 : Nat) : Int) = p' by omega] at this
theorem V_le (e m p p' : Int) (hc : -1 ≤ 24 - biasv e - m) (h : 0 ≤ p) (hp : p ≤ p') : V e m p ≤ V e m p' := by
  rcases Int.lt_or_le p p' with h1 | h1
  · have := V_lt e m p p' hc h h1; omega
  · rw [show p = p' by omega]; omega
theorem V_zero (e m : Int) : V e m 0 = 0 := by
  have : vj m 0 = 1 := by unfold vj; rw [Int.zero_ediv]; rfl
  unfold V; rw [this]; simp
theorem V_nonneg (e m p : Int) (hc : -1 ≤ 24 - biasv e - m) (h : 0 ≤ p) : 0 ≤ V e m p := by
  have := V_le e m 0 p hc (by omega) h; rw [V_zero] at this; exact this

/-- The numbers of the fields of a pattern. -/
def fld (e m E M : Int) : Int := (if E = 0 then M else M + pw m) * pw (24 + (if E = 0 then 1 else E) - biasv e - m)
def scal (e m b : Int) : Int := fld e m (pexp e m b) (pman m b)
theorem scal_V (e m b : Int) (h0 : 0 ≤ b) (h1 : b < pw e * pw m) : scal e m b = V e m b := by
  have b1 := pw_pos m
  have b2 := pw_pos e
  have q0 : 0 ≤ b / pw m := Int.ediv_nonneg h0 (by omega)
  have q1 : b / pw m < pw e := Int.ediv_lt_of_lt_mul (by omega) h1
  have e1 : pexp e m b = b / pw m := by unfold pexp; rw [Int.emod_eq_of_lt q0 q1]
  have e2 := Int.mul_ediv_add_emod b (pw m)
  unfold scal fld V vj
  rw [e1]; unfold pman
  by_cases h : b / pw m = 0
  · rw [if_pos h, if_pos h, if_neg (by omega)]
    rw [h] at e2
    congr 1
    · omega
    · congr 1; omega
  · rw [if_neg h, if_neg h]
    have e3 : (if 1 < b / pw m then b / pw m else 1) = b / pw m := by split <;> omega
    rw [e3]
    congr 1
    · rw [Int.sub_mul, Int.mul_comm (b / pw m)]; omega
    · congr 1; omega

/-! ### the greatest pattern that is not above x -/
def flo (e m x : Int) : Int := (exq e x - 1) * pw m + x * pw (biasv e + m) / (65536 * pw (exq e x))

theorem ulp_mul (e m k : Int) (hb : 0 ≤ biasv e + m) (hc : 0 ≤ 24 - biasv e - m + k) : pw (24 - biasv e - m + k) * pw (biasv e + m) = pw (24 + k) := by
  rw [← pw_add _ _ hc hb]; congr 1; omega
theorem pw_24 (k : Int) (h : 0 ≤ k) : pw (24 + k) = 256 * (65536 * pw k) := by
  rw [pw_add 24 k (by omega) h, ← Int.mul_assoc]; rfl
theorem pw_16 (k : Int) (h : 0 ≤ k) : pw (16 + k) = 65536 * pw k := by
  rw [pw_add 16 k (by omega) h]; rfl

structure Flo (e m x : Int) : Prop where
  q0 : 0 ≤ x * pw (biasv e + m) / (65536 * pw (exq e x))
  q1 : x * pw (biasv e + m) / (65536 * pw (exq e x)) < 2 * pw m
  q2 : exq e x = 1 ∨ pw m ≤ x * pw (biasv e + m) / (65536 * pw (exq e x))
  v : V e m (flo e m x) = x * pw (biasv e + m) / (65536 * pw (exq e x)) * pw (24 - biasv e - m + exq e x)
  v1 : V e m (flo e m x + 1) = (x * pw (biasv e + m) / (65536 * pw (exq e x)) + 1) * pw (24 - biasv e - m + exq e x)
  lo : V e m (flo e m x) ≤ 256 * x
  hi : 256 * x < V e m (flo e m x + 1)
  rem : (256 * x - V e m (flo e m x)) * pw (biasv e + m) = 256 * (x * pw (biasv e + m) % (65536 * pw (exq e x)))
  ulp : pw (24 - biasv e - m + exq e x) * pw (biasv e + m) = 256 * (65536 * pw (exq e x))

theorem flo_spec (e m x : Int) (h1 : 2 ≤ e) (h2 : e ≤ 5) (h3 : 1 ≤ m) (h4 : m ≤ 10) (h5 : 0 ≤ x) (h6 : x < 536870912) : Flo e m x := by
  have bb := biasv_bd h1 h2
  have bk := exq_bd e x h1 h2 h5 h6
  have bl := blen_bd x h5 h6
  have D1 := pw_pos (biasv e + m)
  have K1 := pw_pos (exq e x)
  have M1 := pw_pos m
  have n0 : 0 ≤ x * pw (biasv e + m) := Int.mul_nonneg h5 (by omega)
  have q0 : 0 ≤ x * pw (biasv e + m) / (65536 * pw (exq e x)) := Int.ediv_nonneg n0 (by omega)
  have q12 : x * pw (biasv e + m) / (65536 * pw (exq e x)) < 2 * pw m ∧ (exq e x = 1 ∨ pw m ≤ x * pw (biasv e + m) / (65536 * pw (exq e x))) := by
    have s1 : 2 * pw m = pw (m + 1) := (pw_succ m (by omega)).symm
    rw [s1, ← pw_16 _ (by omega)]
    by_cases hk : 1 < blen x - 17 + biasv e
    · have ek : exq e x = blen x - 17 + biasv e := by unfold exq; rw [if_pos hk]
      have hx : 0 < x := by
        apply Classical.byContradiction; intro hn
        have : x = 0 := by omega
        subst this
        have : blen 0 = 0 := blen_zero
        omega
      obtain ⟨l1, l2, l3⟩ := blen_spec x hx
      rw [ek]
      refine ⟨Int.ediv_lt_of_lt_mul (by have := pw_pos (16 + (blen x - 17 + biasv e)); omega) ?_, Or.inr ((Int.le_ediv_iff_mul_le (by have := pw_pos (16 + (blen x - 17 + biasv e)); omega)).2 ?_)⟩
      · rw [← pw_add _ _ (by omega) (by omega), show m + 1 + (16 + (blen x - 17 + biasv e)) = blen x + (biasv e + m) by omega, pw_add (blen x) (biasv e + m) (by omega) (by omega)]
        exact Int.mul_lt_mul_of_pos_right l3 (by omega)
      · rw [← pw_add _ _ (by omega) (by omega), show m + (16 + (blen x - 17 + biasv e)) = (blen x - 1) + (biasv e + m) by omega, pw_add (blen x - 1) (biasv e + m) (by omega) (by omega)]
        exact Int.mul_le_mul_of_nonneg_right l2 (by omega)
    · have ek : exq e x = 1 := by unfold exq; rw [if_neg hk]
      have hx : x < pw (18 - biasv e) := by
        by_cases hx : x = 0
        · subst hx; have := pw_pos (18 - biasv e); omega
        · obtain ⟨l1, l2, l3⟩ := blen_spec x (by omega)
          have := pw_le (blen x) (18 - biasv e) (by omega)
          omega
      rw [ek]
      refine ⟨Int.ediv_lt_of_lt_mul (by have := pw_pos (16 + 1); omega) ?_, Or.inl rfl⟩
      rw [← pw_add _ _ (by omega) (by omega), show m + 1 + (16 + 1) = (18 - biasv e) + (biasv e + m) by omega, pw_add (18 - biasv e) (biasv e + m) (by omega) (by omega)]
      exact Int.mul_lt_mul_of_pos_right hx (by omega)
  obtain ⟨q1, q2⟩ := q12
  have hv := V_rep e m (exq e x) _ (by omega) bk.1 q0 (by omega) q2
  have hv1 := V_rep e m (exq e x) (x * pw (biasv e + m) / (65536 * pw (exq e x)) + 1) (by omega) bk.1 (by omega) (by omega) (by omega)
  have hu : pw (24 - biasv e - m + exq e x) * pw (biasv e + m) = 256 * (65536 * pw (exq e x)) := by
    rw [ulp_mul e m (exq e x) (by omega) (by omega), pw_24 _ (by omega)]
  have r0 := Int.emod_nonneg (x * pw (biasv e + m)) (b := 65536 * pw (exq e x)) (by omega)
  have r1 := Int.emod_lt_of_pos (x * pw (biasv e + m)) (b := 65536 * pw (exq e x)) (by omega)
  have e1 := Int.mul_ediv_add_emod (x * pw (biasv e + m)) (65536 * pw (exq e x))
  have ev : V e m (flo e m x) = x * pw (biasv e + m) / (65536 * pw (exq e x)) * pw (24 - biasv e - m + exq e x) := hv
  have ev1 : V e m (flo e m x + 1) = (x * pw (biasv e + m) / (65536 * pw (exq e x)) + 1) * pw (24 - biasv e - m + exq e x) := by
    rw [← hv1]; unfold flo; congr 1; omega
  have hr : (256 * x - V e m (flo e m x)) * pw (biasv e + m) = 256 * (x * pw (biasv e + m) % (65536 * pw (exq e x))) := by
    rw [ev, Int.sub_mul, Int.mul_assoc _ (pw (24 - biasv e - m + exq e x)), hu]
    generalize x * pw (biasv e + m) / (65536 * pw (exq e x)) = q at *
    generalize x * pw (biasv e + m) % (65536 * pw (exq e x)) = r at *
    rw [Int.mul_assoc 256 x, ← e1]
    grind
  have hl : V e m (flo e m x) ≤ 256 * x := by
    apply Classical.byContradiction; intro hn
    have := Int.mul_neg_of_neg_of_pos (a := 256 * x - V e m (flo e m x)) (b := pw (biasv e + m)) (by omega) (by omega)
    omega
  have hh : 256 * x < V e m (flo e m x + 1) := by
    have e2 : V e m (flo e m x + 1) = V e m (flo e m x) + pw (24 - biasv e - m + exq e x) := by rw [ev1, ev, Int.add_mul]; omega
    apply Classical.byContradiction; intro hn
    have := Int.mul_le_mul_of_nonneg_right (a := pw (24 - biasv e - m + exq e x)) (b := 256 * x - V e m (flo e m x)) (c := pw (biasv e + m)) (by omega) (by omega)
    omega
  exact ⟨q0, q1, q2, ev, ev1, hl, hh, hr, hu⟩

end Go.Proofs.Ytfakmeimideoaaa
