/- The plain arithmetic of small floating-point formats: the number of a pattern, the nearest pattern of a number. No program is named here. -/
import Derived.Test.YtnhnbblplnhmlaaGreatDoorMini3
namespace Go.Proofs.YtnhnbblplnhmlaaGreatDoor
set_option linter.unusedSimpArgs false
open Go.RowKit

/-! ### V: the number of a pattern without sign, times 2^24; the exponent has no limit -/
def vj (m p : Int) : Int := if 1 < p / pw m then p / pw m else 1
def V (e m p : Int) : Int := (p - (vj m p - 1) * pw m) * pw (24 - biasv e - m + vj m p)

theorem vj_pos (m p : Int) : 1 ≤ vj m p := by unfold vj; split <;> omega

theorem pw_even (m : Int) (h : 1 ≤ m) : ∃ k, pw m = 2 * k ∧ 1 ≤ k := by
  refine ⟨pw (m - 1), ?_, pw_pos _⟩
  rw [← pw_succ (m - 1) (by omega)]; congr 1; omega

theorem vj_rep (m p : Int) (h : 0 ≤ p) : 0 ≤ p - (vj m p - 1) * pw m ∧ p - (vj m p - 1) * pw m < 2 * pw m ∧ (vj m p = 1 ∨ pw m ≤ p - (vj m p - 1) * pw m) := by
  have b := pw_pos m
  have r0 := Int.emod_nonneg p (b := pw m) (by omega)
  have r1 := Int.emod_lt_of_pos p (b := pw m) (by omega)
  have e := Int.mul_ediv_add_emod p (pw m)
  have q0 : 0 ≤ p / pw m := Int.ediv_nonneg h (by omega)
  unfold vj
  split
  · rename_i h1
    have : (p / pw m - 1) * pw m = pw m * (p / pw m) - pw m := by rw [Int.sub_mul, Int.mul_comm]; omega
    omega
  · have h0 : p / pw m = 0 ∨ p / pw m = 1 := by omega
    rcases h0 with h0 | h0 <;> rw [h0] at e <;> omega

theorem V_rep (e m j q : Int) (hc : -1 ≤ 24 - biasv e - m) (hj : 1 ≤ j) (h0 : 0 ≤ q) (h1 : q ≤ 2 * pw m) (h2 : j = 1 ∨ pw m ≤ q) : V e m ((j - 1) * pw m + q) = q * pw (24 - biasv e - m + j) := by
  have b := pw_pos m
  rcases Int.lt_or_le q (pw m) with hq | hq
  · obtain rfl : j = 1 := by omega
    have e1 : ((1 : Int) - 1) * pw m + q = q := by omega
    have e2 : q / pw m = 0 := Int.ediv_eq_zero_of_lt h0 hq
    have e3 : vj m q = 1 := by unfold vj; rw [e2]; rfl
    rw [e1]; unfold V; rw [e3]; congr 1; omega
  · rcases Int.lt_or_le q (2 * pw m) with hq2 | hq2
    · have e2 : ((j - 1) * pw m + q) / pw m = j := by
        rw [show (j - 1) * pw m + q = (q - pw m) + j * pw m by rw [Int.sub_mul]; omega, Int.add_mul_ediv_right _ _ (by omega), Int.ediv_eq_zero_of_lt (by omega) (by omega)]; omega
      have e3 : vj m ((j - 1) * pw m + q) = j := by unfold vj; rw [e2]; split <;> omega
      unfold V; rw [e3]; congr 1; omega
    · obtain rfl : q = 2 * pw m := by omega
      have e2 : ((j - 1) * pw m + 2 * pw m) / pw m = j + 1 := by
        rw [show (j - 1) * pw m + 2 * pw m = 0 + (j + 1) * pw m by rw [Int.sub_mul, Int.add_mul]; omega, Int.add_mul_ediv_right _ _ (by omega), Int.zero_ediv]; omega
      have e3 : vj m ((j - 1) * pw m + 2 * pw m) = j + 1 := by unfold vj; rw [e2]; split <;> omega
      unfold V; rw [e3]
      rw [show 24 - biasv e - m + (j + 1) = (24 - biasv e - m + j) + 1 by omega, pw_succ _ (by omega)]
      rw [show (j - 1) * pw m + 2 * pw m - (j + 1 - 1) * pw m = pw m by rw [Int.sub_mul, Int.sub_mul, Int.add_mul]; omega]
      rw [← Int.mul_assoc, Int.mul_comm (pw m) 2]

theorem V_succ (e m p : Int) (hc : -1 ≤ 24 - biasv e - m) (h : 0 ≤ p) : V e m (p + 1) = V e m p + pw (24 - biasv e - m + vj m p) := by
  obtain ⟨h0, h1, h2⟩ := vj_rep m p h
  have hj := vj_pos m p
  have e1 := V_rep e m (vj m p) (p - (vj m p - 1) * pw m + 1) hc hj (by omega) (by omega) (by omega)
  rw [show (vj m p - 1) * pw m + (p - (vj m p - 1) * pw m + 1) = p + 1 by omega] at e1
  rw [e1, Int.add_mul]; unfold V; omega

theorem V_lt_add (e m p : Int) (hc : -1 ≤ 24 - biasv e - m) (h : 0 ≤ p) : ∀ k : Nat, V e m p < V e m (p + (k + 1 : Nat)) := by
  intro k
  induction k with
  | zero => have := V_succ e m p hc h; have := pw_pos (24 - biasv e - m + vj m p); simp only [Nat.zero_add, Int.natCast_one]; omega
  | succ k ih =>
    have h1 := V_succ e m (p + (k + 1 : Nat)) hc (by omega)
    have := pw_pos (24 - biasv e - m + vj m (p + (k + 1 : Nat)))
    rw [show p + ((k + 1 + 1 : Nat) : Int) = p + ((k + 1 : Nat) : Int) + 1 by omega]; omega
theorem V_lt (e m p p' : Int) (hc : -1 ≤ 24 - biasv e - m) (h : 0 ≤ p) (hp : p < p') : V e m p < V e m p' := by
  have := V_lt_add e m p hc h (p' - p - 1).toNat
  rwa [show p + (((p' - p - 1).toNat + 1 : Nat) : Int) = p' by omega] at this
theorem V_le (e m p p' : Int) (hc : -1 ≤ 24 - biasv e - m) (h : 0 ≤ p) (hp : p ≤ p') : V e m p ≤ V e m p' := by
  rcases Int.lt_or_le p p' with h1 | h1
  · have := V_lt e m p p' hc h h1; omega
  · rw [show p = p' by omega]; omega
theorem V_zero (e m : Int) : V e m 0 = 0 := by
  have : vj m 0 = 1 := by unfold vj; rw [Int.zero_ediv]; rfl
  unfold V; rw [this]; simp
theorem V_nonneg (e m p : Int) (hc : -1 ≤ 24 - biasv e - m) (h : 0 ≤ p) : 0 ≤ V e m p := by
  have := V_le e m 0 p hc (by omega) h; rw [V_zero] at this; exact this

/-- The numbers of the fields of a pattern. -/
def fld (e m E M : Int) : Int := (if E = 0 then M else M + pw m) * pw (24 + (if E = 0 then 1 else E) - biasv e - m)
def scal (e m b : Int) : Int := fld e m (pexp e m b) (pman m b)
theorem scal_V (e m b : Int) (h0 : 0 ≤ b) (h1 : b < pw e * pw m) : scal e m b = V e m b := by
  have b1 := pw_pos m
  have b2 := pw_pos e
  have q0 : 0 ≤ b / pw m := Int.ediv_nonneg h0 (by omega)
  have q1 : b / pw m < pw e := Int.ediv_lt_of_lt_mul (by omega) h1
  have e1 : pexp e m b = b / pw m := by unfold pexp; rw [Int.emod_eq_of_lt q0 q1]
  have e2 := Int.mul_ediv_add_emod b (pw m)
  unfold scal fld V vj
  rw [e1]; unfold pman
  by_cases h : b / pw m = 0
  · rw [if_pos h, if_pos h, if_neg (by omega)]
    rw [h] at e2
    congr 1
    · omega
    · congr 1; omega
  · rw [if_neg h, if_neg h]
    have e3 : (if 1 < b / pw m then b / pw m else 1) = b / pw m := by split <;> omega
    rw [e3]
    congr 1
    · rw [Int.sub_mul, Int.mul_comm (b / pw m)]; omega
    · congr 1; omega

/-! ### the greatest pattern that is not above x -/
def flo (e m x : Int) : Int := (exq e x - 1) * pw m + x * pw (biasv e + m) / (65536 * pw (exq e x))

theorem ulp_mul (e m k : Int) (hb : 0 ≤ biasv e + m) (hc : 0 ≤ 24 - biasv e - m + k) : pw (24 - biasv e - m + k) * pw (biasv e + m) = pw (24 + k) := by
  rw [← pw_add _ _ hc hb]; congr 1; omega
theorem pw_24 (k : Int) (h : 0 ≤ k) : pw (24 + k) = 256 * (65536 * pw k) := by
  rw [pw_add 24 k (by omega) h, ← Int.mul_assoc]; rfl
theorem pw_16 (k : Int) (h : 0 ≤ k) : pw (16 + k) = 65536 * pw k := by
  rw [pw_add 16 k (by omega) h]; rfl

structure Flo (e m x : Int) : Prop where
  q0 : 0 ≤ x * pw (biasv e + m) / (65536 * pw (exq e x))
  q1 : x * pw (biasv e + m) / (65536 * pw (exq e x)) < 2 * pw m
  q2 : exq e x = 1 ∨ pw m ≤ x * pw (biasv e + m) / (65536 * pw (exq e x))
  v : V e m (flo e m x) = x * pw (biasv e + m) / (65536 * pw (exq e x)) * pw (24 - biasv e - m + exq e x)
  v1 : V e m (flo e m x + 1) = (x * pw (biasv e + m) / (65536 * pw (exq e x)) + 1) * pw (24 - biasv e - m + exq e x)
  lo : V e m (flo e m x) ≤ 256 * x
  hi : 256 * x < V e m (flo e m x + 1)
  rem : (256 * x - V e m (flo e m x)) * pw (biasv e + m) = 256 * (x * pw (biasv e + m) % (65536 * pw (exq e x)))
  ulp : pw (24 - biasv e - m + exq e x) * pw (biasv e + m) = 256 * (65536 * pw (exq e x))

theorem flo_spec (e m x : Int) (h1 : 2 ≤ e) (h2 : e ≤ 5) (h3 : 1 ≤ m) (h4 : m ≤ 10) (h5 : 0 ≤ x) (h6 : x < 536870912) : Flo e m x := by
  have bb := biasv_bd h1 h2
  have bk := exq_bd e x h1 h2 h5 h6
  have bl := blen_bd x h5 h6
  have D1 := pw_pos (biasv e + m)
  have K1 := pw_pos (exq e x)
  have M1 := pw_pos m
  have n0 : 0 ≤ x * pw (biasv e + m) := Int.mul_nonneg h5 (by omega)
  have q0 : 0 ≤ x * pw (biasv e + m) / (65536 * pw (exq e x)) := Int.ediv_nonneg n0 (by omega)
  have q12 : x * pw (biasv e + m) / (65536 * pw (exq e x)) < 2 * pw m ∧ (exq e x = 1 ∨ pw m ≤ x * pw (biasv e + m) / (65536 * pw (exq e x))) := by
    have s1 : 2 * pw m = pw (m + 1) := (pw_succ m (by omega)).symm
    rw [s1, ← pw_16 _ (by omega)]
    by_cases hk : 1 < blen x - 17 + biasv e
    · have ek : exq e x = blen x - 17 + biasv e := by unfold exq; rw [if_pos hk]
      have hx : 0 < x := by
        apply Classical.byContradiction; intro hn
        have : x = 0 := by omega
        subst this
        have : blen 0 = 0 := blen_zero
        omega
      obtain ⟨l1, l2, l3⟩ := blen_spec x hx
      rw [ek]
      refine ⟨Int.ediv_lt_of_lt_mul (by have := pw_pos (16 + (blen x - 17 + biasv e)); omega) ?_, Or.inr ((Int.le_ediv_iff_mul_le (by have := pw_pos (16 + (blen x - 17 + biasv e)); omega)).2 ?_)⟩
      · rw [← pw_add _ _ (by omega) (by omega), show m + 1 + (16 + (blen x - 17 + biasv e)) = blen x + (biasv e + m) by omega, pw_add (blen x) (biasv e + m) (by omega) (by omega)]
        exact Int.mul_lt_mul_of_pos_right l3 (by omega)
      · rw [← pw_add _ _ (by omega) (by omega), show m + (16 + (blen x - 17 + biasv e)) = (blen x - 1) + (biasv e + m) by omega, pw_add (blen x - 1) (biasv e + m) (by omega) (by omega)]
        exact Int.mul_le_mul_of_nonneg_right l2 (by omega)
    · have ek : exq e x = 1 := by unfold exq; rw [if_neg hk]
      have hx : x < pw (18 - biasv e) := by
        by_cases hx : x = 0
        · subst hx; have := pw_pos (18 - biasv e); omega
        · obtain ⟨l1, l2, l3⟩ := blen_spec x (by omega)
          have := pw_le (blen x) (18 - biasv e) (by omega)
          omega
      rw [ek]
      refine ⟨Int.ediv_lt_of_lt_mul (by have := pw_pos (16 + 1); omega) ?_, Or.inl rfl⟩
      rw [← pw_add _ _ (by omega) (by omega), show m + 1 + (16 + 1) = (18 - biasv e) + (biasv e + m) by omega, pw_add (18 - biasv e) (biasv e + m) (by omega) (by omega)]
      exact Int.mul_lt_mul_of_pos_right hx (by omega)
  obtain ⟨q1, q2⟩ := q12
  have hv := V_rep e m (exq e x) _ (by omega) bk.1 q0 (by omega) q2
  have hv1 := V_rep e m (exq e x) (x * pw (biasv e + m) / (65536 * pw (exq e x)) + 1) (by omega) bk.1 (by omega) (by omega) (by omega)
  have hu : pw (24 - biasv e - m + exq e x) * pw (biasv e + m) = 256 * (65536 * pw (exq e x)) := by
    rw [ulp_mul e m (exq e x) (by omega) (by omega), pw_24 _ (by omega)]
  have r0 := Int.emod_nonneg (x * pw (biasv e + m)) (b := 65536 * pw (exq e x)) (by omega)
  have r1 := Int.emod_lt_of_pos (x * pw (biasv e + m)) (b := 65536 * pw (exq e x)) (by omega)
  have e1 := Int.mul_ediv_add_emod (x * pw (biasv e + m)) (65536 * pw (exq e x))
  have ev : V e m (flo e m x) = x * pw (biasv e + m) / (65536 * pw (exq e x)) * pw (24 - biasv e - m + exq e x) := hv
  have ev1 : V e m (flo e m x + 1) = (x * pw (biasv e + m) / (65536 * pw (exq e x)) + 1) * pw (24 - biasv e - m + exq e x) := by
    rw [← hv1]; unfold flo; congr 1; omega
  have hr : (256 * x - V e m (flo e m x)) * pw (biasv e + m) = 256 * (x * pw (biasv e + m) % (65536 * pw (exq e x))) := by
    rw [ev, Int.sub_mul, Int.mul_assoc _ (pw (24 - biasv e - m + exq e x)), hu]
    generalize x * pw (biasv e + m) / (65536 * pw (exq e x)) = q at *
    generalize x * pw (biasv e + m) % (65536 * pw (exq e x)) = r at *
    rw [Int.mul_assoc 256 x, ← e1]
    grind
  have hl : V e m (flo e m x) ≤ 256 * x := by
    apply Classical.byContradiction; intro hn
    have := Int.mul_neg_of_neg_of_pos (a := 256 * x - V e m (flo e m x)) (b := pw (biasv e + m)) (by omega) (by omega)
    omega
  have hh : 256 * x < V e m (flo e m x + 1) := by
    have e2 : V e m (flo e m x + 1) = V e m (flo e m x) + pw (24 - biasv e - m + exq e x) := by rw [ev1, ev, Int.add_mul]; omega
    apply Classical.byContradiction; intro hn
    have := Int.mul_le_mul_of_nonneg_right (a := pw (24 - biasv e - m + exq e x)) (b := 256 * x - V e m (flo e m x)) (c := pw (biasv e + m)) (by omega) (by omega)
    omega
  exact ⟨q0, q1, q2, ev, ev1, hl, hh, hr, hu⟩

end Go.Proofs.YtnhnbblplnhmlaaGreatDoor

/- What follows of the nearest pattern: monotony, exactness, nearness. No program is named here. -/
namespace Go.Proofs.YtnhnbblplnhmlaaGreatDoor
open Go.RowKit

def most (e m : Int) : Int := (pw e - 1) * pw m - 1

theorem sgn_same (z D y : Int) (h : z * D = 256 * y) (hD : 0 < D) : (0 < z ↔ 0 < y) ∧ (z = 0 ↔ y = 0) := by
  rcases Int.lt_trichotomy z 0 with h1 | h1 | h1
  · have := Int.mul_neg_of_neg_of_pos h1 hD
    constructor <;> constructor <;> intro <;> omega
  · subst h1; rw [Int.zero_mul] at h
    constructor <;> constructor <;> intro <;> omega
  · have := Int.mul_pos h1 hD
    constructor <;> constructor <;> intro <;> omega

/-- Is the pattern above the nearer one? -/
def upB (e m x : Int) : Prop := V e m (flo e m x + 1) - 256 * x < 256 * x - V e m (flo e m x) ∨ (V e m (flo e m x + 1) - 256 * x = 256 * x - V e m (flo e m x) ∧ flo e m x % 2 = 1)
instance (e m x : Int) : Decidable (upB e m x) := by unfold upB; exact inferInstance
theorem encm_eq (e m x : Int) (h1 : 2 ≤ e) (h2 : e ≤ 5) (h3 : 1 ≤ m) (h4 : m ≤ 10) (h5 : 0 ≤ x) (h6 : x < 536870912) :
    0 ≤ flo e m x ∧ (most e m ≤ flo e m x → encm e m x = most e m) ∧ (flo e m x < most e m → upB e m x → encm e m x = flo e m x + 1) ∧ (flo e m x < most e m → ¬ upB e m x → encm e m x = flo e m x) := by
  have F := flo_spec e m x h1 h2 h3 h4 h5 h6
  have bk := exq_bd e x h1 h2 h5 h6
  have D1 := pw_pos (biasv e + m)
  have M1 := pw_pos m
  obtain ⟨K, hK, hK1⟩ := pw_even m h3
  have ev : (exq e x - 1) * pw m = 2 * ((exq e x - 1) * K) := by rw [hK]; grind
  have nn : 0 ≤ (exq e x - 1) * pw m := Int.mul_nonneg (by omega) (by omega)
  have hd : dte (x * pw (biasv e + m)) (65536 * pw (exq e x)) = if upB e m x then x * pw (biasv e + m) / (65536 * pw (exq e x)) + 1 else x * pw (biasv e + m) / (65536 * pw (exq e x)) := by
    have e2 : V e m (flo e m x + 1) = V e m (flo e m x) + pw (24 - biasv e - m + exq e x) := by rw [F.v1, F.v, Int.add_mul]; omega
    have hs := sgn_same (2 * (256 * x - V e m (flo e m x)) - pw (24 - biasv e - m + exq e x)) (pw (biasv e + m)) (2 * (x * pw (biasv e + m) % (65536 * pw (exq e x))) - 65536 * pw (exq e x))
      (by rw [Int.sub_mul, Int.mul_assoc, F.rem, F.ulp]; omega) (by omega)
    have hp : flo e m x % 2 = x * pw (biasv e + m) / (65536 * pw (exq e x)) % 2 := by unfold flo; omega
    have hiff : upB e m x ↔ (65536 * pw (exq e x) < 2 * (x * pw (biasv e + m) % (65536 * pw (exq e x))) ∨ (2 * (x * pw (biasv e + m) % (65536 * pw (exq e x))) = 65536 * pw (exq e x) ∧ (x * pw (biasv e + m) / (65536 * pw (exq e x))) % 2 = 1)) := by
      unfold upB; rw [hp, e2]; omega
    unfold dte
    by_cases hu : upB e m x
    · rw [if_pos hu, if_pos (hiff.1 hu)]
    · rw [if_neg hu, if_neg (fun h => hu (hiff.2 h))]
  have q0 := F.q0
  have he : encm e m x = if (exq e x - 1) * pw m + dte (x * pw (biasv e + m)) (65536 * pw (exq e x)) ≤ most e m then (exq e x - 1) * pw m + dte (x * pw (biasv e + m)) (65536 * pw (exq e x)) else most e m := rfl
  rw [he, hd]
  unfold flo at *
  refine ⟨by omega, fun hm => ?_, fun hm hu => ?_, fun hm hu => ?_⟩
  · by_cases hu : upB e m x
    · rw [if_pos hu, if_neg (by omega)]
    · rw [if_neg hu]; split <;> omega
  · rw [if_pos hu, if_pos (by omega)]; omega
  · rw [if_neg hu, if_pos (by omega)]

theorem most_bd (e m : Int) (h1 : 2 ≤ e) (h3 : 1 ≤ m) : 0 ≤ most e m ∧ most e m < pw e * pw m ∧ most e m + pw m + 1 = pw e * pw m := by
  have p1 := pw_pos m
  have p2 : 4 ≤ pw e := pw_le 2 e h1
  have p3 : 2 ≤ pw m := pw_le 1 m h3
  have m1 : (pw e - 1) * pw m = pw e * pw m - pw m := by rw [Int.sub_mul]; omega
  have m2 : 4 * pw m ≤ pw e * pw m := Int.mul_le_mul_of_nonneg_right p2 (by omega)
  unfold most; omega

theorem encm_in (e m x : Int) (h1 : 2 ≤ e) (h2 : e ≤ 5) (h3 : 1 ≤ m) (h4 : m ≤ 10) (h5 : 0 ≤ x) (h6 : x < 536870912) : 0 ≤ encm e m x ∧ encm e m x ≤ most e m := by
  obtain ⟨f0, f1, f2, f3⟩ := encm_eq e m x h1 h2 h3 h4 h5 h6
  have mb := most_bd e m h1 h3
  by_cases hm : most e m ≤ flo e m x
  · rw [f1 hm]; omega
  · by_cases hu : upB e m x
    · rw [f2 (by omega) hu]; omega
    · rw [f3 (by omega) hu]; omega

/-- Below and above x there is no pattern between. -/
theorem V_split (e m x p : Int) (h1 : 2 ≤ e) (h2 : e ≤ 5) (h3 : 1 ≤ m) (h4 : m ≤ 10) (h5 : 0 ≤ x) (h6 : x < 536870912) (hp : 0 ≤ p) : (p ≤ flo e m x ↔ V e m p ≤ 256 * x) := by
  have F := flo_spec e m x h1 h2 h3 h4 h5 h6
  have bb := biasv_bd h1 h2
  have f0 := (encm_eq e m x h1 h2 h3 h4 h5 h6).1
  constructor
  · intro h
    have := V_le e m p (flo e m x) (by omega) hp h
    have := F.lo; omega
  · intro h
    apply Classical.byContradiction; intro hn
    have := V_le e m (flo e m x + 1) p (by omega) (by omega) (by omega)
    have := F.hi; omega

theorem encm_mono (e m x y : Int) (h1 : 2 ≤ e) (h2 : e ≤ 5) (h3 : 1 ≤ m) (h4 : m ≤ 10) (h5 : 0 ≤ x) (hxy : x ≤ y) (h6 : y < 536870912) : encm e m x ≤ encm e m y := by
  obtain ⟨f0, f1, f2, f3⟩ := encm_eq e m x h1 h2 h3 h4 h5 (by omega)
  obtain ⟨g0, g1, g2, g3⟩ := encm_eq e m y h1 h2 h3 h4 (by omega) h6
  have F := flo_spec e m x h1 h2 h3 h4 h5 (by omega)
  have G := flo_spec e m y h1 h2 h3 h4 (by omega) h6
  have hf : flo e m x ≤ flo e m y := (V_split e m y _ h1 h2 h3 h4 (by omega) h6 f0).2 (by have := F.lo; omega)
  have bx := encm_in e m x h1 h2 h3 h4 h5 (by omega)
  by_cases hm : most e m ≤ flo e m y
  · rw [g1 hm]; exact bx.2
  · by_cases hu : upB e m x
    · rw [f2 (by omega) hu]
      by_cases hv : upB e m y
      · rw [g2 (by omega) hv]; omega
      · rw [g3 (by omega) hv]
        apply Classical.byContradiction; intro hn
        have he : flo e m x = flo e m y := by omega
        apply hv
        unfold upB at *
        rw [he] at hu
        have := G.hi
        rcases Int.lt_or_le x y with h | h
        · omega
        · obtain rfl : x = y := by omega
          exact hu
    · rw [f3 (by omega) hu]
      by_cases hv : upB e m y
      · rw [g2 (by omega) hv]; omega
      · rw [g3 (by omega) hv]; omega

/-- A number that a pattern denotes has that pattern. -/
theorem encm_exact (e m x p : Int) (h1 : 2 ≤ e) (h2 : e ≤ 5) (h3 : 1 ≤ m) (h4 : m ≤ 10) (h5 : 0 ≤ x) (h6 : x < 536870912) (hp : 0 ≤ p) (hm : p ≤ most e m) (hv : V e m p = 256 * x) : encm e m x = p := by
  obtain ⟨f0, f1, f2, f3⟩ := encm_eq e m x h1 h2 h3 h4 h5 h6
  have F := flo_spec e m x h1 h2 h3 h4 h5 h6
  have bb := biasv_bd h1 h2
  have a : p ≤ flo e m x := (V_split e m x p h1 h2 h3 h4 h5 h6 hp).2 (by omega)
  have b : flo e m x = p := by
    apply Classical.byContradiction; intro hn
    have := V_lt e m p (flo e m x) (by omega) hp (by omega)
    have := F.lo; omega
  have hu : ¬ upB e m x := by
    unfold upB; rw [b, hv]
    have := F.hi; rw [b] at this
    omega
  rcases Int.lt_or_le (flo e m x) (most e m) with h | h
  · rw [f3 h hu, b]
  · rw [f1 h]; omega

/-- No pattern is nearer. -/
theorem encm_near (e m x p : Int) (h1 : 2 ≤ e) (h2 : e ≤ 5) (h3 : 1 ≤ m) (h4 : m ≤ 10) (h5 : 0 ≤ x) (h6 : x < 536870912) (hp : 0 ≤ p) (hm : p ≤ most e m) :
    V e m (encm e m x) - 256 * x ≤ V e m p - 256 * x ∨ V e m (encm e m x) - 256 * x ≤ 256 * x - V e m p := by
  obtain ⟨f0, f1, f2, f3⟩ := encm_eq e m x h1 h2 h3 h4 h5 h6
  have F := flo_spec e m x h1 h2 h3 h4 h5 h6
  have bb := biasv_bd h1 h2
  have lo := F.lo
  have hi := F.hi
  rcases Int.lt_or_le (flo e m x) p with h | h
  · left
    have := V_le e m (flo e m x + 1) p (by omega) (by omega) (by omega)
    by_cases hu : upB e m x
    · rw [f2 (by omega) hu]; omega
    · rw [f3 (by omega) hu]; omega
  · have := V_le e m p (flo e m x) (by omega) hp h
    right
    by_cases hmm : most e m ≤ flo e m x
    · rw [f1 hmm]
      have := V_le e m (most e m) (flo e m x) (by omega) (by have := most_bd e m h1 h3; omega) hmm
      omega
    · by_cases hu : upB e m x
      · rw [f2 (by omega) hu]; unfold upB at hu; omega
      · rw [f3 (by omega) hu]; omega
theorem encm_near' (e m x p : Int) (h1 : 2 ≤ e) (h2 : e ≤ 5) (h3 : 1 ≤ m) (h4 : m ≤ 10) (h5 : 0 ≤ x) (h6 : x < 536870912) (hp : 0 ≤ p) (hm : p ≤ most e m) :
    256 * x - V e m (encm e m x) ≤ V e m p - 256 * x ∨ 256 * x - V e m (encm e m x) ≤ 256 * x - V e m p := by
  obtain ⟨f0, f1, f2, f3⟩ := encm_eq e m x h1 h2 h3 h4 h5 h6
  have F := flo_spec e m x h1 h2 h3 h4 h5 h6
  have bb := biasv_bd h1 h2
  have lo := F.lo
  have hi := F.hi
  rcases Int.lt_or_le (flo e m x) p with h | h
  · have := V_le e m (flo e m x + 1) p (by omega) (by omega) (by omega)
    left
    by_cases hu : upB e m x
    · rw [f2 (by omega) hu]; omega
    · rw [f3 (by omega) hu]; unfold upB at hu; omega
  · have := V_le e m p (flo e m x) (by omega) hp h
    right
    by_cases hmm : most e m ≤ flo e m x
    · rw [f1 hmm]
      have := V_le e m p (most e m) (by omega) hp hm
      omega
    · by_cases hu : upB e m x
      · rw [f2 (by omega) hu]; omega
      · rw [f3 (by omega) hu]; omega

/-! ### decoding -/
def dq (e m p : Int) : Int := sat ((V e m p + 128) / 256)

theorem fld_bd (e m E M : Int) (h1 : 2 ≤ e) (h2 : e ≤ 5) (h3 : 1 ≤ m) (h4 : m ≤ 10) (hE : 0 ≤ E) (hE2 : E < pw e) (hM : 0 ≤ M) (hM2 : M < pw m) : 0 ≤ fld e m E M ∧ fld e m E M ≤ 2251799813685248 := by
  have bb := biasv_bd h1 h2
  have p1 : pw m ≤ 1024 := pw_le m 10 h4
  have b1 : 1 ≤ (if E = 0 then 1 else E) := by split <;> omega
  have b2 : (if E = 0 then 1 else E) + 0 < pw e := by have : 4 ≤ pw e := pw_le 2 e h1; split <;> omega
  have b3 : 24 + (if E = 0 then 1 else E) - biasv e - m ≤ 39 := by
    have : e = 2 ∨ e = 3 ∨ e = 4 ∨ e = 5 := by omega
    have t2 : pw 2 = 4 := rfl
    have t3 : pw 3 = 8 := rfl
    have t4 : pw 4 = 16 := rfl
    have t5 : pw 5 = 32 := rfl
    have t1 : pw 1 = 2 := rfl
    unfold biasv at *
    rcases this with rfl | rfl | rfl | rfl <;> simp only [show (2:Int) - 1 = 1 from rfl, show (3:Int) - 1 = 2 from rfl, show (4:Int) - 1 = 3 from rfl, show (5:Int) - 1 = 4 from rfl] at * <;> omega
  have b4 : pw (24 + (if E = 0 then 1 else E) - biasv e - m) ≤ 549755813888 := pw_le _ 39 b3
  have b5 := pw_pos (24 + (if E = 0 then 1 else E) - biasv e - m)
  have b6 : 0 ≤ (if E = 0 then M else M + pw m) ∧ (if E = 0 then M else M + pw m) ≤ 2048 := by split <;> omega
  have := mul_bd (if E = 0 then M else M + pw m) (pw (24 + (if E = 0 then 1 else E) - biasv e - m)) 2048 549755813888 b6.1 b6.2 (by omega) b4
  unfold fld; omega

theorem decu_eq (e m E M : Int) (h1 : 2 ≤ e) (h2 : e ≤ 5) (h3 : 1 ≤ m) (h4 : m ≤ 10) (hE : 0 ≤ E) (hE2 : E < pw e) (hM : 0 ≤ M) (hM2 : M < pw m) : decu e m E M = sat ((fld e m E M + 128) / 256) := by
  have bb := biasv_bd h1 h2
  have p1 : pw m ≤ 1024 := pw_le m 10 h4
  have p2 : pw e ≤ 32 := pw_le e 5 h2
  have D1 := pw_pos (biasv e + m)
  have D2 : pw (biasv e + m) ≤ 33554432 := pw_le _ 25 (by omega)
  have ek : (if 1 < E then E else 1) = (if E = 0 then 1 else E) := by split <;> split <;> omega
  obtain ⟨k, hk⟩ : ∃ k, k = (if E = 0 then 1 else E) := ⟨_, rfl⟩
  obtain ⟨g, hg⟩ : ∃ g, g = (if E = 0 then M else M + pw m) := ⟨_, rfl⟩
  have k1 : 1 ≤ k ∧ k ≤ 31 := by rw [hk]; split <;> omega
  have g1 : 0 ≤ g ∧ g ≤ 2048 := by rw [hg]; split <;> omega
  unfold decu fld
  rw [ek, ← hk, ← hg]
  have K1 := pw_pos k
  have K2 : pw k ≤ 2147483648 := pw_le k 31 k1.2
  have m1 := mul_bd g (65536 * pw k) 2048 140737488355328 g1.1 g1.2 (by omega) (by omega)
  rw [rda_in _ _ (by omega) (by omega) (by omega) (by omega)]
  congr 1
  unfold rdv
  rw [if_pos m1.1]
  have hu : pw (24 + k - biasv e - m) * pw (biasv e + m) = 256 * (65536 * pw k) := by
    rw [← pw_add _ _ (by omega) (by omega), show 24 + k - biasv e - m + (biasv e + m) = 24 + k by omega, pw_24 k (by omega)]
  have e1 : (2 * (g * (65536 * pw k)) + pw (biasv e + m)) * 128 = (g * pw (24 + k - biasv e - m) + 128) * pw (biasv e + m) := by
    rw [Int.add_mul (g * _), Int.mul_assoc g, hu]; grind
  rw [← Int.mul_ediv_mul_of_pos_left (2 * (g * (65536 * pw k)) + pw (biasv e + m)) (2 * pw (biasv e + m)) (show (0 : Int) < 128 by omega), e1,
    show 2 * pw (biasv e + m) * 128 = 256 * pw (biasv e + m) by omega, Int.mul_ediv_mul_of_pos_left _ _ (show 0 < pw (biasv e + m) by omega)]

end Go.Proofs.YtnhnbblplnhmlaaGreatDoor

/- Patterns with a sign: decoding, encoding and rounding, and what the laws of small formats ask of them. No program is named here. -/
namespace Go.Proofs.YtnhnbblplnhmlaaGreatDoor
open Go.RowKit

theorem pw_em (e m : Int) (h1 : 2 ≤ e) (h3 : 1 ≤ m) : pw (e + m) = pw e * pw m := pw_add e m (by omega) (by omega)

/-! ### the fields of a pattern with its sign bit set -/
theorem pexp_high (e m p : Int) (h1 : 2 ≤ e) (h3 : 1 ≤ m) : pexp e m (pw (e + m) + p) = pexp e m p := by
  have b := pw_pos m
  unfold pexp
  rw [pw_em e m h1 h3, Int.add_comm, Int.add_mul_ediv_right _ _ (by omega), Int.add_emod_right]
theorem pman_high (e m p : Int) (h1 : 2 ≤ e) (h3 : 1 ≤ m) : pman m (pw (e + m) + p) = pman m p := by
  unfold pman
  rw [pw_em e m h1 h3, Int.add_comm, Int.add_mul_emod_self_right]
theorem pneg_low (e m p : Int) (h : p < pw (e + m)) : pneg e m p = false := by unfold pneg; simpa using h
theorem pneg_high (e m p : Int) (h : 0 ≤ p) : pneg e m (pw (e + m) + p) = true := by unfold pneg; simp; omega

theorem special_iff (e m p : Int) (h1 : 2 ≤ e) (h3 : 1 ≤ m) (h0 : 0 ≤ p) (hp : p < pw (e + m)) : (pexp e m p = pw e - 1 ↔ most e m < p) := by
  have b1 := pw_pos m
  rw [pw_em e m h1 h3] at hp
  have q0 : 0 ≤ p / pw m := Int.ediv_nonneg h0 (by omega)
  have q1 : p / pw m < pw e := Int.ediv_lt_of_lt_mul (by omega) hp
  have e1 : pexp e m p = p / pw m := by unfold pexp; rw [Int.emod_eq_of_lt q0 q1]
  have h2 : pw e - 1 ≤ p / pw m ↔ (pw e - 1) * pw m ≤ p := Int.le_ediv_iff_mul_le (by omega)
  rw [e1]; unfold most; omega

/-- A pattern without sign that denotes a number decodes to its rounded number. -/
theorem decm_eq (e m p : Int) (h1 : 2 ≤ e) (h2 : e ≤ 5) (h3 : 1 ≤ m) (h4 : m ≤ 10) (h0 : 0 ≤ p) (hp : p ≤ most e m) : decm e m (pexp e m p) (pman m p) = dq e m p := by
  have mb := most_bd e m h1 h3
  have hs := special_iff e m p h1 h3 h0 (by rw [pw_em e m h1 h3]; omega)
  obtain ⟨a0, a1⟩ := pexp_bd e m p
  obtain ⟨b0, b1⟩ := pman_bd m p
  unfold decm dq
  rw [if_neg (by omega), decu_eq e m _ _ h1 h2 h3 h4 a0 a1 b0 b1, ← scal_V e m p h0 (by omega)]
  rfl

theorem decv_low (e m p : Int) (h1 : 2 ≤ e) (h2 : e ≤ 5) (h3 : 1 ≤ m) (h4 : m ≤ 10) (h0 : 0 ≤ p) (hp : p ≤ most e m) : decv e m p = dq e m p := by
  have mb := most_bd e m h1 h3
  unfold decv
  rw [pneg_low e m p (by rw [pw_em e m h1 h3]; omega), if_neg (by simp), decm_eq e m p h1 h2 h3 h4 h0 hp]
theorem decv_high (e m p : Int) (h1 : 2 ≤ e) (h2 : e ≤ 5) (h3 : 1 ≤ m) (h4 : m ≤ 10) (h0 : 0 ≤ p) (hp : p ≤ most e m) : decv e m (pw (e + m) + p) = -dq e m p := by
  unfold decv
  rw [pneg_high e m p h0, if_pos rfl, pexp_high e m p h1 h3, pman_high e m p h1 h3, decm_eq e m p h1 h2 h3 h4 h0 hp]

theorem dq_zero (e m : Int) : dq e m 0 = 0 := by unfold dq; rw [V_zero]; rfl
theorem dq_bd (e m p : Int) (h1 : 2 ≤ e) (h2 : e ≤ 5) (h4 : m ≤ 10) (h0 : 0 ≤ p) : 0 ≤ dq e m p ∧ dq e m p ≤ 536870911 := by
  have bb := biasv_bd h1 h2
  have := V_nonneg e m p (by omega) h0
  have h := sat_bd ((V e m p + 128) / 256)
  refine ⟨?_, h.2⟩
  unfold dq
  have := sat_mono 0 ((V e m p + 128) / 256) (by omega)
  have z : sat 0 = 0 := rfl
  omega
theorem dq_mono (e m p p' : Int) (h1 : 2 ≤ e) (h2 : e ≤ 5) (h4 : m ≤ 10) (h0 : 0 ≤ p) (hp : p ≤ p') : dq e m p ≤ dq e m p' := by
  have bb := biasv_bd h1 h2
  have := V_le e m p p' (by omega) h0 hp
  exact sat_mono _ _ (by omega)

/-! ### Quantize -/
/-- Of a number that is saturated and not negative. -/
def Q (e m x : Int) : Int := dq e m (encm e m x)
def qv (e m : Int) (s : Bool) (x : Int) : Int := decv e m (encv e m s x)
theorem qv_eq (e m : Int) (s : Bool) (x : Int) (h1 : 2 ≤ e) (h2 : e ≤ 5) (h3 : 1 ≤ m) (h4 : m ≤ 10) :
    qv e m s x = if 0 ≤ x then Q e m (sat x) else if s then -Q e m (-sat x) else 0 := by
  have bs := sat_bd x
  have bn := sat_neg_iff x
  have mb := most_bd e m h1 h3
  unfold qv encv Q
  by_cases hx : 0 ≤ x
  · obtain ⟨c0, c1⟩ := encm_in e m (sat x) h1 h2 h3 h4 (by omega) (by omega)
    rw [if_pos hx, if_pos hx, decv_low e m _ h1 h2 h3 h4 c0 c1]
  · obtain ⟨c0, c1⟩ := encm_in e m (-sat x) h1 h2 h3 h4 (by omega) (by omega)
    rw [if_neg hx, if_neg hx]
    cases s with
    | false => simp only [Bool.false_eq_true, if_false]; rw [decv_low e m 0 h1 h2 h3 h4 (by omega) (by omega), dq_zero]
    | true =>
      simp only [if_true]
      by_cases hz : encm e m (-sat x) = 0
      · rw [if_pos hz, hz, decv_low e m 0 h1 h2 h3 h4 (by omega) (by omega), dq_zero]; rfl
      · rw [if_neg hz, decv_high e m _ h1 h2 h3 h4 c0 c1]

theorem Q_bd (e m x : Int) (h1 : 2 ≤ e) (h2 : e ≤ 5) (h3 : 1 ≤ m) (h4 : m ≤ 10) (h5 : 0 ≤ x) (h6 : x < 536870912) : 0 ≤ Q e m x ∧ Q e m x ≤ 536870911 :=
  dq_bd e m _ h1 h2 h4 (encm_in e m x h1 h2 h3 h4 h5 h6).1
theorem Q_mono (e m x y : Int) (h1 : 2 ≤ e) (h2 : e ≤ 5) (h3 : 1 ≤ m) (h4 : m ≤ 10) (h5 : 0 ≤ x) (hxy : x ≤ y) (h6 : y < 536870912) : Q e m x ≤ Q e m y :=
  dq_mono e m _ _ h1 h2 h4 (encm_in e m x h1 h2 h3 h4 h5 (by omega)).1 (encm_mono e m x y h1 h2 h3 h4 h5 hxy h6)

theorem qv_bd (e m : Int) (s : Bool) (x : Int) (h1 : 2 ≤ e) (h2 : e ≤ 5) (h3 : 1 ≤ m) (h4 : m ≤ 10) : -536870911 ≤ qv e m s x ∧ qv e m s x ≤ 536870911 := by
  have bs := sat_bd x
  have bn := sat_neg_iff x
  rw [qv_eq e m s x h1 h2 h3 h4]
  by_cases hx : 0 ≤ x
  · have := Q_bd e m (sat x) h1 h2 h3 h4 (by omega) (by omega); rw [if_pos hx]; omega
  · have := Q_bd e m (-sat x) h1 h2 h3 h4 (by omega) (by omega); rw [if_neg hx]; split <;> omega

theorem qv_mono (e m : Int) (s : Bool) (x y : Int) (h1 : 2 ≤ e) (h2 : e ≤ 5) (h3 : 1 ≤ m) (h4 : m ≤ 10) (h : x ≤ y) : qv e m s x ≤ qv e m s y := by
  have bx := sat_bd x
  have nx := sat_neg_iff x
  have by' := sat_bd y
  have ny := sat_neg_iff y
  have hm := sat_mono x y h
  rw [qv_eq e m s x h1 h2 h3 h4, qv_eq e m s y h1 h2 h3 h4]
  by_cases hx : 0 ≤ x
  · rw [if_pos hx, if_pos (show 0 ≤ y by omega)]
    exact Q_mono e m _ _ h1 h2 h3 h4 (by omega) hm (by omega)
  · have := Q_bd e m (-sat x) h1 h2 h3 h4 (by omega) (by omega)
    rw [if_neg hx]
    by_cases hy : 0 ≤ y
    · have := Q_bd e m (sat y) h1 h2 h3 h4 (by omega) (by omega)
      rw [if_pos hy]; split <;> omega
    · rw [if_neg hy]
      have := Q_mono e m (-sat y) (-sat x) h1 h2 h3 h4 (by omega) (by omega) (by omega)
      split <;> omega

/-! ### formats of at most four exponent bits: every number is exact -/
theorem V_256 (e m p : Int) (h1 : 2 ≤ e) (h2 : e ≤ 4) (h3 : 1 ≤ m) (h4 : m ≤ 10) (h0 : 0 ≤ p) (hp : p ≤ most e m) : V e m p % 256 = 0 ∧ V e m p < 137438953216 := by
  have mb := most_bd e m h1 h3
  have bb := biasv_bd h1 (show e ≤ 5 by omega)
  have b7 : biasv e ≤ 7 := by have := pw_le (e - 1) 3 (by omega); have t : pw 3 = 8 := rfl; unfold biasv; omega
  have hj := vj_pos m p
  constructor
  · unfold V
    have : pw (24 - biasv e - m + vj m p) = 256 * pw (16 - biasv e - m + vj m p) := by
      rw [show 24 - biasv e - m + vj m p = 8 + (16 - biasv e - m + vj m p) by omega, pw_add _ _ (by omega) (by omega)]; rfl
    rw [this, ← Int.mul_assoc, Int.mul_comm _ 256, Int.mul_assoc]; omega
  · rw [← scal_V e m p h0 (by omega)]
    obtain ⟨a0, a1⟩ := pexp_bd e m p
    obtain ⟨b0, b1⟩ := pman_bd m p
    have p1 : pw m ≤ 1024 := pw_le m 10 h4
    have c1 : 24 + (if pexp e m p = 0 then 1 else pexp e m p) - biasv e - m ≤ 24 + 8 - m := by
      have t2 : pw 2 = 4 := rfl
      have t3 : pw 3 = 8 := rfl
      have t4 : pw 4 = 16 := rfl
      have t1 : pw 1 = 2 := rfl
      have : e = 2 ∨ e = 3 ∨ e = 4 := by omega
      unfold biasv
      rcases this with rfl | rfl | rfl <;> simp only [show (2:Int) - 1 = 1 from rfl, show (3:Int) - 1 = 2 from rfl, show (4:Int) - 1 = 3 from rfl] at * <;> split <;> omega
    have b4 := pw_le _ _ c1
    have b5 := pw_pos (24 + (if pexp e m p = 0 then 1 else pexp e m p) - biasv e - m)
    have b6 : 0 ≤ (if pexp e m p = 0 then pman m p else pman m p + pw m) ∧ (if pexp e m p = 0 then pman m p else pman m p + pw m) ≤ 2 * pw m := by split <;> omega
    have h := mul_bd _ _ _ _ b6.1 b6.2 (by omega) b4
    have e1 : 2 * pw m * pw (24 + 8 - m) = 2 * pw 32 := by
      rw [Int.mul_assoc, ← pw_add _ _ (by omega) (by omega)]; congr 2; omega
    have e2 : pw 32 = 4294967296 := rfl
    unfold scal fld; omega

theorem dq_exact (e m p : Int) (h1 : 2 ≤ e) (h2 : e ≤ 4) (h3 : 1 ≤ m) (h4 : m ≤ 10) (h0 : 0 ≤ p) (hp : p ≤ most e m) : V e m p = 256 * dq e m p := by
  obtain ⟨a, b⟩ := V_256 e m p h1 h2 h3 h4 h0 hp
  have bb := biasv_bd h1 (show e ≤ 5 by omega)
  have := V_nonneg e m p (by omega) h0
  unfold dq
  rw [sat_id _ (by omega) (by omega)]; omega

theorem encm_dq (e m p : Int) (h1 : 2 ≤ e) (h2 : e ≤ 4) (h3 : 1 ≤ m) (h4 : m ≤ 10) (h0 : 0 ≤ p) (hp : p ≤ most e m) : encm e m (dq e m p) = p := by
  obtain ⟨a, b⟩ := dq_bd e m p h1 (by omega) h4 h0
  exact encm_exact e m _ p h1 (by omega) h3 h4 a (by omega) h0 hp (dq_exact e m p h1 h2 h3 h4 h0 hp)

theorem dq_pos (e m p : Int) (h1 : 2 ≤ e) (h2 : e ≤ 4) (h3 : 1 ≤ m) (h4 : m ≤ 10) (h0 : 0 ≤ p) (hp : p ≤ most e m) (hz : dq e m p = 0) : p = 0 := by
  have h := dq_exact e m p h1 h2 h3 h4 h0 hp
  have bb := biasv_bd h1 (show e ≤ 5 by omega)
  apply Classical.byContradiction; intro hn
  have := V_lt e m 0 p (by omega) (by omega) (by omega)
  rw [V_zero] at this; omega

/-- A pattern that denotes a number: without sign, or with. -/
theorem finite_cases (e m b : Int) (s : Bool) (h1 : 2 ≤ e) (h3 : 1 ≤ m) (h5 : 0 ≤ b) (h6 : b < pw (e + m + sbit s)) (hf : pexp e m b ≠ pw e - 1) :
    (b ≤ most e m) ∨ (s = true ∧ ∃ p, b = pw (e + m) + p ∧ 0 ≤ p ∧ p ≤ most e m) := by
  by_cases hb : b < pw (e + m)
  · left
    have := special_iff e m b h1 h3 h5 hb
    omega
  · right
    cases s with
    | false => exfalso; simp only [sbit, Bool.false_eq_true, if_false, Int.add_zero] at h6; omega
    | true =>
      have e1 : pw (e + m + sbit true) = 2 * pw (e + m) := pw_succ (e + m) (by omega)
      refine ⟨rfl, b - pw (e + m), by omega, by omega, ?_⟩
      have h := pexp_high e m (b - pw (e + m)) h1 h3
      rw [show pw (e + m) + (b - pw (e + m)) = b by omega] at h
      have := special_iff e m (b - pw (e + m)) h1 h3 (by omega) (by omega)
      omega

theorem roundtrip (e m b : Int) (s : Bool) (h1 : 2 ≤ e) (h2 : e ≤ 4) (h3 : 1 ≤ m) (h4 : m ≤ 10) (h5 : 0 ≤ b) (h6 : b < pw (e + m + sbit s)) (hf : pexp e m b ≠ pw e - 1) (hz : ¬ (0 < b ∧ decv e m b = 0)) :
    encv e m s (decv e m b) = b := by
  rcases finite_cases e m b s h1 h3 h5 h6 hf with hb | ⟨rfl, p, rfl, p0, p1⟩
  · obtain ⟨a, c⟩ := dq_bd e m b h1 (by omega) h4 h5
    rw [decv_low e m b h1 (by omega) h3 h4 h5 hb]
    unfold encv
    rw [if_pos a, sat_id _ (by omega) (by omega), encm_dq e m b h1 h2 h3 h4 h5 hb]
  · obtain ⟨a, c⟩ := dq_bd e m p h1 (by omega) h4 p0
    have b1 := pw_pos (e + m)
    rw [decv_high e m p h1 (by omega) h3 h4 p0 p1] at *
    have hp : p ≠ 0 := by
      intro h; subst h
      rw [dq_zero] at hz
      exact hz ⟨by omega, by omega⟩
    unfold encv
    rw [if_neg (by omega), if_pos rfl, sat_neg, sat_id (dq e m p) (by omega) (by omega), Int.neg_neg, encm_dq e m p h1 h2 h3 h4 p0 p1, if_neg hp]

theorem zero_only (e m b : Int) (s : Bool) (h1 : 2 ≤ e) (h2 : e ≤ 4) (h3 : 1 ≤ m) (h4 : m ≤ 10) (h5 : 0 ≤ b) (h6 : b < pw (e + m + sbit s)) (hf : pexp e m b ≠ pw e - 1) (hz : decv e m b = 0) :
    b = 0 ∨ (s = true ∧ b = pw (e + m)) := by
  rcases finite_cases e m b s h1 h3 h5 h6 hf with hb | ⟨rfl, p, rfl, p0, p1⟩
  · rw [decv_low e m b h1 (by omega) h3 h4 h5 hb] at hz
    exact Or.inl (dq_pos e m b h1 h2 h3 h4 h5 hb hz)
  · rw [decv_high e m p h1 (by omega) h3 h4 p0 p1] at hz
    have := dq_pos e m p h1 h2 h3 h4 p0 p1 (by omega)
    exact Or.inr ⟨rfl, by omega⟩

def dist (a b : Int) : Int := if a < b then b - a else a - b
theorem Q_near (e m x p : Int) (h1 : 2 ≤ e) (h2 : e ≤ 4) (h3 : 1 ≤ m) (h4 : m ≤ 10) (h5 : 0 ≤ x) (h6 : x < 536870912) (hp : 0 ≤ p) (hm : p ≤ most e m) : dist (Q e m x) x ≤ dist (dq e m p) x := by
  obtain ⟨c0, c1⟩ := encm_in e m x h1 (by omega) h3 h4 h5 h6
  have a := encm_near e m x p h1 (by omega) h3 h4 h5 h6 hp hm
  have b := encm_near' e m x p h1 (by omega) h3 h4 h5 h6 hp hm
  rw [dq_exact e m _ h1 h2 h3 h4 c0 c1, dq_exact e m p h1 h2 h3 h4 hp hm] at a b
  unfold dist Q
  split <;> split <;> omega

theorem nearest (e m x b : Int) (s : Bool) (h1 : 2 ≤ e) (h2 : e ≤ 4) (h3 : 1 ≤ m) (h4 : m ≤ 10) (h5 : 0 ≤ b) (h6 : b < pw (e + m + sbit s)) (hf : pexp e m b ≠ pw e - 1) (hx : -536870911 ≤ x) (hx2 : x ≤ 536870911) :
    dist (qv e m s x) x ≤ dist (decv e m b) x := by
  have hs := sat_id x hx hx2
  have mb := most_bd e m h1 h3
  rw [qv_eq e m s x h1 (by omega) h3 h4, hs]
  by_cases h0 : 0 ≤ x
  · rw [if_pos h0]
    rcases finite_cases e m b s h1 h3 h5 h6 hf with hb | ⟨rfl, p, rfl, p0, p1⟩
    · rw [decv_low e m b h1 (by omega) h3 h4 h5 hb]
      exact Q_near e m x b h1 h2 h3 h4 h0 (by omega) h5 hb
    · rw [decv_high e m p h1 (by omega) h3 h4 p0 p1]
      have a := Q_near e m x 0 h1 h2 h3 h4 h0 (by omega) (by omega) (by omega)
      have c := dq_bd e m p h1 (by omega) h4 p0
      rw [dq_zero] at a
      unfold dist at *
      generalize Q e m x = q at *
      generalize dq e m p = d at *
      revert a; split <;> split <;> split <;> omega
  · rw [if_neg h0]
    cases s with
    | false =>
      rcases finite_cases e m b false h1 h3 h5 h6 hf with hb | ⟨h, _⟩
      · rw [decv_low e m b h1 (by omega) h3 h4 h5 hb]
        have c := dq_bd e m b h1 (by omega) h4 h5
        simp only [Bool.false_eq_true, if_false]
        unfold dist; split <;> split <;> omega
      · cases h
    | true =>
      simp only [if_true]
      rcases finite_cases e m b true h1 h3 h5 h6 hf with hb | ⟨_, p, rfl, p0, p1⟩
      · rw [decv_low e m b h1 (by omega) h3 h4 h5 hb]
        have a := Q_near e m (-x) 0 h1 h2 h3 h4 (by omega) (by omega) (by omega) (by omega)
        have c := dq_bd e m b h1 (by omega) h4 h5
        rw [dq_zero] at a
        unfold dist at *
        generalize Q e m (-x) = q at *
        generalize dq e m b = d at *
        revert a; split <;> split <;> split <;> split <;> omega
      · rw [decv_high e m p h1 (by omega) h3 h4 p0 p1]
        have a := Q_near e m (-x) p h1 h2 h3 h4 (by omega) (by omega) p0 p1
        unfold dist at *
        generalize Q e m (-x) = q at *
        generalize dq e m p = d at *
        revert a; split <;> split <;> split <;> split <;> omega

end Go.Proofs.YtnhnbblplnhmlaaGreatDoor

/- Rounding to Half twice; the reference's way to the nearest pattern. No program is named here. -/
namespace Go.Proofs.YtnhnbblplnhmlaaGreatDoor
open Go.RowKit

/-! ### Half -/
theorem half_exact (x : Int) (h5 : 0 ≤ x) (h6 : x < 536870912) : V 5 10 (encm 5 10 x) % 256 = 0 := by
  obtain ⟨f0, f1, f2, f3⟩ := encm_eq 5 10 x (by omega) (by omega) (by omega) (by omega) h5 h6
  have F := flo_spec 5 10 x (by omega) (by omega) (by omega) (by omega) h5 h6
  have bk := exq_bd 5 x (by omega) (by omega) h5 h6
  have eb : biasv 5 = 15 := rfl
  have em : most 5 10 = 31743 := rfl
  have p10 : pw 10 = 1024 := rfl
  have q1 := F.q1
  have hm : flo 5 10 x < most 5 10 := by
    rw [em]; unfold flo; rw [p10] at *; omega
  have eU : 24 - biasv 5 - 10 + exq 5 x = exq 5 x - 1 := by rw [eb]; omega
  have v := F.v
  have v1 := F.v1
  have lo := F.lo
  have hi := F.hi
  rw [eU] at v v1
  by_cases hk : 9 ≤ exq 5 x
  · have : pw (exq 5 x - 1) = 256 * pw (exq 5 x - 9) := by
      rw [show exq 5 x - 1 = 8 + (exq 5 x - 9) by omega, pw_add _ _ (by omega) (by omega)]; rfl
    rw [this, ← Int.mul_assoc, Int.mul_comm _ 256, Int.mul_assoc] at v v1
    by_cases hu : upB 5 10 x
    · rw [f2 hm hu]; omega
    · rw [f3 hm hu]; omega
  · have h9 : (256 : Int) = pw (exq 5 x - 1) * pw (9 - exq 5 x) := by
      rw [← pw_add _ _ (by omega) (by omega), show exq 5 x - 1 + (9 - exq 5 x) = 8 by omega]; rfl
    have hx : 256 * x = pw (9 - exq 5 x) * x * pw (exq 5 x - 1) := by
      rw [h9]; grind
    have e2 : V 5 10 (flo 5 10 x + 1) = V 5 10 (flo 5 10 x) + pw (exq 5 x - 1) := by rw [v1, v, Int.add_mul]; omega
    have hB : (256 * x - V 5 10 (flo 5 10 x)) % pw (exq 5 x - 1) = 0 := by
      rw [v, hx, ← Int.sub_mul]; exact Int.mul_emod_left _ _
    rw [Int.emod_eq_of_lt (by omega) (by omega)] at hB
    have hu : ¬ upB 5 10 x := by unfold upB; have := pw_pos (exq 5 x - 1); omega
    rw [f3 hm hu]; omega

theorem Q_half_idem (x : Int) (h5 : 0 ≤ x) (h6 : x < 536870912) : Q 5 10 (Q 5 10 x) = Q 5 10 x := by
  have b := Q_bd 5 10 x (by omega) (by omega) (by omega) (by omega) h5 h6
  obtain ⟨c0, c1⟩ := encm_in 5 10 x (by omega) (by omega) (by omega) (by omega) h5 h6
  have he := half_exact x h5 h6
  have eb : biasv 5 = 15 := rfl
  have vn := V_nonneg 5 10 (encm 5 10 x) (by rw [eb]; omega) c0
  by_cases hb : V 5 10 (encm 5 10 x) ≤ 256 * 536870911
  · have hq : V 5 10 (encm 5 10 x) = 256 * Q 5 10 x := by
      unfold Q dq; rw [sat_id _ (by omega) (by omega)]; omega
    have := encm_exact 5 10 (Q 5 10 x) (encm 5 10 x) (by omega) (by omega) (by omega) (by omega) b.1 (by omega) c0 c1 hq
    show dq 5 10 (encm 5 10 (Q 5 10 x)) = _
    rw [this]; rfl
  · have hq : Q 5 10 x = 536870911 := by
      have h := b.2
      unfold Q dq at *
      have := sat_mono 536870911 ((V 5 10 (encm 5 10 x) + 128) / 256) (by omega)
      have z : sat 536870911 = 536870911 := rfl
      omega
    have m1 := Q_mono 5 10 x 536870911 (by omega) (by omega) (by omega) (by omega) h5 (by omega) (by omega)
    have m2 := Q_bd 5 10 536870911 (by omega) (by omega) (by omega) (by omega) (by omega) (by omega)
    rw [hq]; omega

theorem qv_half_idem (x : Int) : qv 5 10 true (qv 5 10 true x) = qv 5 10 true x := by
  have bs := sat_bd x
  have bn := sat_neg_iff x
  have z : Q 5 10 0 = 0 := by
    have : encm 5 10 0 = 0 := by decide +kernel
    unfold Q; rw [this, dq_zero]
  rw [qv_eq 5 10 true x (by omega) (by omega) (by omega) (by omega)]
  by_cases hx : 0 ≤ x
  · rw [if_pos hx]
    have b := Q_bd 5 10 (sat x) (by omega) (by omega) (by omega) (by omega) (by omega) (by omega)
    rw [qv_eq 5 10 true _ (by omega) (by omega) (by omega) (by omega), if_pos b.1, sat_id _ (by omega) (by omega), Q_half_idem _ (by omega) (by omega)]
  · rw [if_neg hx]; simp only [if_true]
    have b := Q_bd 5 10 (-sat x) (by omega) (by omega) (by omega) (by omega) (by omega) (by omega)
    rw [qv_eq 5 10 true _ (by omega) (by omega) (by omega) (by omega)]; simp only [if_true]
    by_cases hz : Q 5 10 (-sat x) = 0
    · rw [hz]; simpa [sat] using z
    · rw [if_neg (by omega), sat_neg, sat_id _ (by omega) (by omega), Int.neg_neg, Q_half_idem _ (by omega) (by omega)]

/-! ### the reference's Decode -/
def rdm (e m b : Int) : Int := if pexp e m b = pw e - 1 then (if pman m b = 0 then 536870911 else 0) else (scal e m b + 128) / 256
theorem scal_bd (e m b : Int) (h1 : 2 ≤ e) (h2 : e ≤ 5) (h3 : 1 ≤ m) (h4 : m ≤ 10) : 0 ≤ scal e m b ∧ scal e m b ≤ 2251799813685248 := by
  obtain ⟨a0, a1⟩ := pexp_bd e m b
  obtain ⟨b0, b1⟩ := pman_bd m b
  exact fld_bd e m _ _ h1 h2 h3 h4 a0 a1 b0 b1
theorem rdm_eq (e m b : Int) (h1 : 2 ≤ e) (h2 : e ≤ 5) (h3 : 1 ≤ m) (h4 : m ≤ 10) : decm e m (pexp e m b) (pman m b) = if 536870911 < rdm e m b then 536870911 else rdm e m b := by
  obtain ⟨a0, a1⟩ := pexp_bd e m b
  obtain ⟨b0, b1⟩ := pman_bd m b
  have sb := scal_bd e m b h1 h2 h3 h4
  unfold decm rdm
  by_cases hs : pexp e m b = pw e - 1
  · rw [if_pos hs, if_pos hs]; split <;> rfl
  · rw [if_neg hs, if_neg hs, decu_eq e m _ _ h1 h2 h3 h4 a0 a1 b0 b1]
    show sat ((scal e m b + 128) / 256) = _
    unfold sat; rw [if_neg (by omega)]

/-! ### the reference's Encode: bits from the highest one on -/
def pmx (e m x : Int) : Int := if most e m ≤ flo e m x then most e m else flo e m x
theorem pmx_bd (e m x : Int) (h1 : 2 ≤ e) (h2 : e ≤ 5) (h3 : 1 ≤ m) (h4 : m ≤ 10) (h5 : 0 ≤ x) (h6 : x < 536870912) : 0 ≤ pmx e m x ∧ pmx e m x ≤ most e m := by
  have := (encm_eq e m x h1 h2 h3 h4 h5 h6).1
  have := most_bd e m h1 h3
  unfold pmx; split <;> omega
theorem pmx_iff (e m x q : Int) (h1 : 2 ≤ e) (h2 : e ≤ 5) (h3 : 1 ≤ m) (h4 : m ≤ 10) (h5 : 0 ≤ x) (h6 : x < 536870912) (hq : 0 ≤ q) : (q ≤ most e m ∧ scal e m q ≤ 256 * x ↔ q ≤ pmx e m x) := by
  have mb := most_bd e m h1 h3
  have vs := V_split e m x q h1 h2 h3 h4 h5 h6 hq
  by_cases hm : q ≤ most e m
  · rw [scal_V e m q hq (by omega), ← vs]; unfold pmx; split <;> omega
  · have := pmx_bd e m x h1 h2 h3 h4 h5 h6; omega
theorem pmx_end (e m x : Int) (h1 : 2 ≤ e) (h2 : e ≤ 5) (h3 : 1 ≤ m) (h4 : m ≤ 10) (h5 : 0 ≤ x) (h6 : x < 536870912) :
    (¬ pmx e m x < most e m → encm e m x = pmx e m x) ∧
    (pmx e m x < most e m → scal e m (pmx e m x) ≤ 256 * x ∧ 256 * x < scal e m (pmx e m x + 1) ∧
      encm e m x = if scal e m (pmx e m x + 1) - 256 * x < 256 * x - scal e m (pmx e m x) ∨ (scal e m (pmx e m x + 1) - 256 * x = 256 * x - scal e m (pmx e m x) ∧ pmx e m x % 2 = 1) then pmx e m x + 1 else pmx e m x) := by
  obtain ⟨f0, f1, f2, f3⟩ := encm_eq e m x h1 h2 h3 h4 h5 h6
  have F := flo_spec e m x h1 h2 h3 h4 h5 h6
  have mb := most_bd e m h1 h3
  have pb := pmx_bd e m x h1 h2 h3 h4 h5 h6
  constructor
  · intro hn
    have h : most e m ≤ flo e m x := by unfold pmx at hn; split at hn <;> omega
    rw [f1 h]; unfold pmx; rw [if_pos h]
  · intro hl
    have h : ¬ most e m ≤ flo e m x := by
      intro hc; unfold pmx at hl; rw [if_pos hc] at hl; omega
    have hp : pmx e m x = flo e m x := by unfold pmx; rw [if_neg h]
    rw [hp, scal_V e m _ f0 (by omega), scal_V e m _ (by omega) (by omega)]
    refine ⟨F.lo, F.hi, ?_⟩
    by_cases hu : upB e m x
    · rw [f2 (by omega) hu]; unfold upB at hu; rw [if_pos hu]
    · rw [f3 (by omega) hu]; unfold upB at hu; rw [if_neg hu]

/-- The state of the loop: all bits above i are known. -/
def Lp (e m x i p : Int) : Prop := -1 ≤ i ∧ i ≤ e + m - 1 ∧ 0 ≤ p ∧ p ≤ pmx e m x ∧ pmx e m x < p + pw (i + 1)
theorem Lp.start (e m x : Int) (h1 : 2 ≤ e) (h2 : e ≤ 5) (h3 : 1 ≤ m) (h4 : m ≤ 10) (h5 : 0 ≤ x) (h6 : x < 536870912) : Lp e m x (e + m - 1) 0 := by
  have pb := pmx_bd e m x h1 h2 h3 h4 h5 h6
  have mb := most_bd e m h1 h3
  refine ⟨by omega, by omega, by omega, pb.1, ?_⟩
  rw [show e + m - 1 + 1 = e + m by omega, pw_em e m h1 h3]; omega
theorem Lp.yes {e m x i p : Int} (h : Lp e m x i p) (hi : 0 ≤ i) (hq : p + pw i ≤ pmx e m x) : Lp e m x (i - 1) (p + pw i) := by
  obtain ⟨a, b, c, d, f⟩ := h
  have := pw_pos i
  rw [pw_succ i hi] at f
  exact ⟨by omega, by omega, by omega, hq, by rw [show i - 1 + 1 = i by omega]; omega⟩
theorem Lp.no {e m x i p : Int} (h : Lp e m x i p) (hi : 0 ≤ i) (hq : ¬ p + pw i ≤ pmx e m x) : Lp e m x (i - 1) p := by
  obtain ⟨a, b, c, d, f⟩ := h
  exact ⟨by omega, by omega, c, d, by rw [show i - 1 + 1 = i by omega]; omega⟩
theorem Lp.done {e m x p : Int} (h : Lp e m x (-1) p) : p = pmx e m x := by
  obtain ⟨a, b, c, d, f⟩ := h
  have : pw (-1 + 1) = 1 := rfl
  omega

end Go.Proofs.YtnhnbblplnhmlaaGreatDoor

/- What the calls of the reference of package minifloat return. -/
namespace Go.Proofs.YtnhnbblplnhmlaaGreatDoor
open Go.RowKit Go.Sort

theorem power_b (n : Int) (w : World) (h0 : 0 ≤ n) (h1 : n ≤ 62) :
    Calls Tryz.prog 121 #[.int .i64 n] w fun x w' => x = .returned (.int .i64 (pw n)) ∧ Below w.heap.size w w' := by
  go_enter Tryz.func121, Tryz.ntmps121
  go_wp2
  go_loop [3, 4] (fun x i => ∃ k : Int, 0 ≤ k ∧ k ≤ n ∧ i = .int .i64 k ∧ x = .int .i64 (pw k)) (fun _ i => (n - intOf i).toNat)
  case atStart => exact ⟨0, by omega, by omega, rfl, rfl⟩
  case round =>
    obtain ⟨k, k0, k1, rfl, rfl⟩ := hrel
    have p0 := pw_pos k
    by_cases hk : k < n
    · have p1 := pw_le (k + 1) 62 (by omega)
      have p2 := pw_succ k k0
      have p3 : pw 62 = 4611686018427387904 := rfl
      have HP := Lib.hid p2
      have p4 : pw k * 2 ≤ 4611686018427387904 := by omega
      clear p2 p3 p1
      go_wp2
      go_round
      case rel => exact ⟨k + 1, by omega, by omega, rfl, by rw [HP.out, Int.mul_comm]⟩
      case measure => simp [intOf]; omega
    · obtain rfl : k = n := by omega
      go_wp2
      go_ret
      exact ⟨rfl, Below.refl _ _⟩

theorem rvalid_yes (e m : Int) (s : Bool) (w : World) (h1 : 2 ≤ e) (h2 : e ≤ 5) (h3 : 1 ≤ m) (h4 : m ≤ 10) :
    Calls Tryz.prog 122 #[.agg #[.int .i64 e, .int .i64 m, .bool s]] w fun x w' => x = .returned (.bool true) ∧ Below w.heap.size w w' := by
  obtain ⟨c0, c1, c2, BB⟩ := box3 w (.int .i64 e) (.int .i64 m) (.bool s) 78
  go_enter Tryz.func122, Tryz.ntmps122
  go_wp2
  go_ret
  exact ⟨ret_bool (by simp <;> omega), BB⟩

theorem rvalid_no (e m : Int) (s : Bool) (w : World) (h : ¬ (2 ≤ e ∧ e ≤ 5 ∧ 1 ≤ m ∧ m ≤ 10)) :
    Calls Tryz.prog 122 #[.agg #[.int .i64 e, .int .i64 m, .bool s]] w fun x w' => x = .returned (.bool false) ∧ Below w.heap.size w w' := by
  obtain ⟨c0, c1, c2, BB⟩ := box3 w (.int .i64 e) (.int .i64 m) (.bool s) 78
  go_enter Tryz.func122, Tryz.ntmps122
  go_wp2
  all_goals go_ret
  all_goals exact ⟨ret_bool (by simp <;> omega), BB⟩

theorem rbits_b (e m : Int) (s : Bool) (w : World) (h1 : 2 ≤ e) (h2 : e ≤ 5) (h3 : 1 ≤ m) (h4 : m ≤ 10) :
    Calls Tryz.prog 133 #[.agg #[.int .i64 e, .int .i64 m, .bool s]] w fun x w' => x = .returned (.int .i64 (e + m + sbit s)) ∧ Below w.heap.size w w' := by
  obtain ⟨c0, c1, c2, BB⟩ := box3 w (.int .i64 e) (.int .i64 m) (.bool s) 78
  cases s
  all_goals
    go_enter Tryz.func133, Tryz.ntmps133
    go_wp2_with (first | (go_at_call 122; refine (rvalid_yes _ _ _ _ h1 h2 h3 h4).mono ?_; rintro _ _ ⟨rfl, B⟩; replace BB := bon BB B; replace c0 := cell_below B c0; replace c1 := cell_below B c1; replace c2 := cell_below B c2))
    go_ret
    exact ⟨ret_int (by simp [sbit] <;> omega), BB⟩

theorem rbits_no (e m : Int) (s : Bool) (w : World) (h : ¬ (2 ≤ e ∧ e ≤ 5 ∧ 1 ≤ m ∧ m ≤ 10)) :
    Calls Tryz.prog 133 #[.agg #[.int .i64 e, .int .i64 m, .bool s]] w fun x w' => x = .returned (.int .i64 0) ∧ Below w.heap.size w w' := by
  obtain ⟨c0, c1, c2, BB⟩ := box3 w (.int .i64 e) (.int .i64 m) (.bool s) 78
  have H := Lib.hid h
  clear h
  go_enter Tryz.func133, Tryz.ntmps133
  go_wp2_with (first | (go_at_call 122; refine (rvalid_no _ _ _ _ H.out).mono ?_; rintro _ _ ⟨rfl, B⟩; replace BB := bon BB B; replace c0 := cell_below B c0; replace c1 := cell_below B c1; replace c2 := cell_below B c2))
  go_ret
  exact ⟨rfl, BB⟩

theorem rhalf_b (w : World) :
    Calls Tryz.prog 66 #[] w fun x w' => x = .returned (.agg #[.int .i64 5, .int .i64 10, .bool true]) ∧ Below w.heap.size w w' := by
  go_enter Tryz.func66, Tryz.ntmps66
  go_wp2
  exact bodyPost_ret (v := .agg #[.int .i64 5, .int .i64 10, .bool true]) (by simp [results, Tryz.results66, go_sem]) rfl ⟨rfl, (Below.refl _ _).alloc (Nat.le_refl _) _⟩

theorem rpattern_yes (e m b : Int) (s : Bool) (w : World) (h1 : 2 ≤ e) (h2 : e ≤ 5) (h3 : 1 ≤ m) (h4 : m ≤ 10) (h5 : 0 ≤ b) (h6 : b < pw (e + m + sbit s)) :
    Calls Tryz.prog 117 #[.agg #[.int .i64 e, .int .i64 m, .bool s], .int .i64 b] w fun x w' => x = .returned (.bool true) ∧ Below w.heap.size w w' := by
  obtain ⟨c0, c1, c2, BB⟩ := box3 w (.int .i64 e) (.int .i64 m) (.bool s) 78
  have sb := sbit_bd s
  go_enter Tryz.func117, Tryz.ntmps117
  go_wp2_with (first | (go_at_call 122; refine (rvalid_yes _ _ _ _ h1 h2 h3 h4).mono ?_; rintro _ _ ⟨rfl, B⟩; replace BB := bon BB B; replace c0 := cell_below B c0; replace c1 := cell_below B c1; replace c2 := cell_below B c2) | (go_at_call 133; refine (rbits_b _ _ _ _ h1 h2 h3 h4).mono ?_; rintro _ _ ⟨rfl, B⟩; replace BB := bon BB B; replace c0 := cell_below B c0; replace c1 := cell_below B c1; replace c2 := cell_below B c2) | (go_at_call 121; refine (power_b _ _ (by omega) (by omega)).mono ?_; rintro _ _ ⟨rfl, B⟩; replace BB := bon BB B; replace c0 := cell_below B c0; replace c1 := cell_below B c1; replace c2 := cell_below B c2))
  all_goals go_ret
  all_goals exact ⟨ret_bool (by simp <;> omega), BB⟩

theorem rpattern_no (e m b : Int) (s : Bool) (w : World) (h : ¬ ((2 ≤ e ∧ e ≤ 5 ∧ 1 ≤ m ∧ m ≤ 10) ∧ 0 ≤ b ∧ b < pw (e + m + sbit s))) :
    Calls Tryz.prog 117 #[.agg #[.int .i64 e, .int .i64 m, .bool s], .int .i64 b] w fun x w' => x = .returned (.bool false) ∧ Below w.heap.size w w' := by
  obtain ⟨c0, c1, c2, BB⟩ := box3 w (.int .i64 e) (.int .i64 m) (.bool s) 78
  have sb := sbit_bd s
  have H := Lib.hid h
  clear h
  by_cases hv : 2 ≤ e ∧ e ≤ 5 ∧ 1 ≤ m ∧ m ≤ 10
  · obtain ⟨h1, h2, h3, h4⟩ := hv
    have hb : b < 0 ∨ (0 ≤ b ∧ pw (e + m + sbit s) ≤ b) := by have := H.out; omega
    rcases hb with hb | ⟨hb1, hb2⟩
    all_goals
      go_enter Tryz.func117, Tryz.ntmps117
      go_wp2_with (first | (go_at_call 122; refine (rvalid_yes _ _ _ _ h1 h2 h3 h4).mono ?_; rintro _ _ ⟨rfl, B⟩; replace BB := bon BB B; replace c0 := cell_below B c0; replace c1 := cell_below B c1; replace c2 := cell_below B c2) | (go_at_call 133; refine (rbits_b _ _ _ _ h1 h2 h3 h4).mono ?_; rintro _ _ ⟨rfl, B⟩; replace BB := bon BB B; replace c0 := cell_below B c0; replace c1 := cell_below B c1; replace c2 := cell_below B c2) | (go_at_call 121; refine (power_b _ _ (by omega) (by omega)).mono ?_; rintro _ _ ⟨rfl, B⟩; replace BB := bon BB B; replace c0 := cell_below B c0; replace c1 := cell_below B c1; replace c2 := cell_below B c2))
      all_goals go_ret
      all_goals exact ⟨ret_bool (by simp <;> omega), BB⟩
  · have HV := Lib.hid hv
    clear hv
    go_enter Tryz.func117, Tryz.ntmps117
    go_wp2_with (first | (go_at_call 122; refine (rvalid_no _ _ _ _ HV.out).mono ?_; rintro _ _ ⟨rfl, B⟩; replace BB := bon BB B; replace c0 := cell_below B c0; replace c1 := cell_below B c1; replace c2 := cell_below B c2))
    all_goals go_ret
    all_goals exact ⟨rfl, BB⟩

theorem rexp_b (e m b : Int) (s : Bool) (w : World) (h1 : 2 ≤ e) (h2 : e ≤ 5) (h3 : 1 ≤ m) (h4 : m ≤ 10) (h5 : 0 ≤ b) (_h6 : b ≤ 65536) :
    Calls Tryz.prog 134 #[.agg #[.int .i64 e, .int .i64 m, .bool s], .int .i64 b] w fun x w' => x = .returned (.int .i64 (pexp e m b)) ∧ Below w.heap.size w w' := by
  obtain ⟨c0, c1, c2, BB⟩ := box3 w (.int .i64 e) (.int .i64 m) (.bool s) 78
  have p1 := pw_pos m
  have p2 := pw_pos e
  have q0 : 0 ≤ b / pw m := Int.ediv_nonneg h5 (by omega)
  have q1 : b / pw m ≤ b := Int.ediv_le_self _ h5
  have r1 := pexp_bd e m b
  have i1 : b.tdiv (pw m) = b / pw m := Int.tdiv_eq_ediv_of_nonneg h5
  have i2 : (b / pw m).tmod (pw e) = b / pw m % pw e := Int.tmod_eq_emod_of_nonneg q0
  have n1 : (pw m == 0) = false := by simp; omega
  have n2 : (pw e == 0) = false := by simp; omega
  unfold pexp at r1
  go_enter Tryz.func134, Tryz.ntmps134
  go_wp2
  have k_c0 := cell_regrown c0
  have k_c1 := cell_regrown c1
  have k_c2 := cell_regrown c2
  refine wp_region_quiet_below (by kernel_rfl) (by kernel_rfl) ?_
  repeat (first | go_big_quiet_step ((first | (go_at_call 121; exact Calls.regrown_of (power_b _ _ (by omega) (by omega))))) | quiet_step ((first | (go_at_call 121; exact Calls.regrown_of (power_b _ _ (by omega) (by omega))))))
  refine wpQuiet_nil ?_
  intro W hw'
  have B := below_regrown' hw'
  clear hw' k_c0 k_c1 k_c2
  replace BB := bon BB B
  replace c0 := cell_below B c0
  replace c1 := cell_below B c1
  replace c2 := cell_below B c2
  go_wp2
  go_ret
  exact ⟨ret_int (by unfold pexp; first | rfl | omega), BB⟩

theorem rman_b (e m b : Int) (s : Bool) (w : World) (h3 : 1 ≤ m) (h4 : m ≤ 10) (h5 : 0 ≤ b) (_h6 : b ≤ 65536) :
    Calls Tryz.prog 120 #[.agg #[.int .i64 e, .int .i64 m, .bool s], .int .i64 b] w fun x w' => x = .returned (.int .i64 (pman m b)) ∧ Below w.heap.size w w' := by
  obtain ⟨c0, c1, c2, BB⟩ := box3 w (.int .i64 e) (.int .i64 m) (.bool s) 78
  have p1 := pw_pos m
  have r1 := pman_bd m b
  have i2 : b.tmod (pw m) = b % pw m := Int.tmod_eq_emod_of_nonneg h5
  unfold pman at r1
  go_enter Tryz.func120, Tryz.ntmps120
  go_wp2_with (first | (go_at_call 121; refine (power_b _ _ (by omega) (by omega)).mono ?_; rintro _ _ ⟨rfl, B⟩; replace BB := bon BB B; replace c0 := cell_below B c0; replace c1 := cell_below B c1; replace c2 := cell_below B c2))
  go_ret
  exact ⟨ret_int (by unfold pman; first | rfl | omega), BB⟩

theorem rfinite_no (e m b : Int) (s : Bool) (w : World) (h : ¬ ((2 ≤ e ∧ e ≤ 5 ∧ 1 ≤ m ∧ m ≤ 10) ∧ 0 ≤ b ∧ b < pw (e + m + sbit s))) :
    Calls Tryz.prog 118 #[.agg #[.int .i64 e, .int .i64 m, .bool s], .int .i64 b] w fun x w' => x = .returned (.bool false) ∧ Below w.heap.size w w' := by
  obtain ⟨c0, c1, c2, BB⟩ := box3 w (.int .i64 e) (.int .i64 m) (.bool s) 78
  have H := Lib.hid h
  clear h
  go_enter Tryz.func118, Tryz.ntmps118
  go_wp2
  have k_c0 := cell_regrown c0
  have k_c1 := cell_regrown c1
  have k_c2 := cell_regrown c2
  refine wp_region_quiet_below (by kernel_rfl) (by kernel_rfl) ?_
  repeat (first | go_big_quiet_step ((first | (go_at_call 117; exact Calls.regrown_of (rpattern_no _ _ _ _ _ H.out)))) | quiet_step ((first | (go_at_call 117; exact Calls.regrown_of (rpattern_no _ _ _ _ _ H.out)))))
  refine wpQuiet_nil ?_
  intro W hw'
  have B := below_regrown' hw'
  clear hw' k_c0 k_c1 k_c2
  replace BB := bon BB B
  replace c0 := cell_below B c0
  replace c1 := cell_below B c1
  replace c2 := cell_below B c2
  go_wp2
  go_ret
  exact ⟨rfl, BB⟩

theorem rfinite_yes (e m b : Int) (s : Bool) (w : World) (h1 : 2 ≤ e) (h2 : e ≤ 5) (h3 : 1 ≤ m) (h4 : m ≤ 10) (h5 : 0 ≤ b) (h6 : b < pw (e + m + sbit s)) :
    Calls Tryz.prog 118 #[.agg #[.int .i64 e, .int .i64 m, .bool s], .int .i64 b] w fun x w' => x = .returned (.bool (pexp e m b != pw e - 1)) ∧ Below w.heap.size w w' := by
  obtain ⟨c0, c1, c2, BB⟩ := box3 w (.int .i64 e) (.int .i64 m) (.bool s) 78
  have sb := sbit_bd s
  have p0 : pw (e + m + sbit s) ≤ 65536 := pw_le _ 16 (by omega)
  have p1 := pw_pos e
  have p2 : pw e ≤ 32 := pw_le _ 5 (by omega)
  have i1 : IntKind.i64.wrap (pw e - 1) = pw e - 1 := IntWalk.i64_in _ (by omega)
  go_enter Tryz.func118, Tryz.ntmps118
  go_wp2
  have k_c0 := cell_regrown c0
  have k_c1 := cell_regrown c1
  have k_c2 := cell_regrown c2
  refine wp_region_quiet_below (by kernel_rfl) (by kernel_rfl) ?_
  repeat (first | go_big_quiet_step ((first | (go_at_call 117; exact Calls.regrown_of (rpattern_yes _ _ _ _ _ h1 h2 h3 h4 h5 h6)) | (go_at_call 134; exact Calls.regrown_of (rexp_b _ _ _ _ _ h1 h2 h3 h4 h5 (by omega))) | (go_at_call 121; exact Calls.regrown_of (power_b _ _ (by omega) (by omega))))) | quiet_step ((first | (go_at_call 117; exact Calls.regrown_of (rpattern_yes _ _ _ _ _ h1 h2 h3 h4 h5 h6)) | (go_at_call 134; exact Calls.regrown_of (rexp_b _ _ _ _ _ h1 h2 h3 h4 h5 (by omega))) | (go_at_call 121; exact Calls.regrown_of (power_b _ _ (by omega) (by omega))))))
  refine wpQuiet_nil ?_
  intro W hw'
  have B := below_regrown' hw'
  clear hw' k_c0 k_c1 k_c2
  replace BB := bon BB B
  replace c0 := cell_below B c0
  replace c1 := cell_below B c1
  replace c2 := cell_below B c2
  go_wp2
  go_ret
  exact ⟨rfl, BB⟩

theorem rscaled_b (e m b : Int) (s : Bool) (w : World) (h1 : 2 ≤ e) (h2 : e ≤ 5) (h3 : 1 ≤ m) (h4 : m ≤ 10) (h5 : 0 ≤ b) (h6 : b ≤ 65536) :
    Calls Tryz.prog 119 #[.agg #[.int .i64 e, .int .i64 m, .bool s], .int .i64 b] w fun x w' => x = .returned (.int .i64 (scal e m b)) ∧ Below w.heap.size w w' := by
  obtain ⟨c0, c1, c2, BB⟩ := box3 w (.int .i64 e) (.int .i64 m) (.bool s) 78
  have sbd := scal_bd e m b h1 h2 h3 h4
  have bE := pexp_bd e m b
  have bM := pman_bd m b
  have bb := biasv_bd h1 h2
  have hE := rexp_b e m b s
  have hM := rman_b e m b s
  have HB : Hid (biasv e = pw (e - 1) - 1) := Lib.hid rfl
  have p1 := pw_pos m
  have p2 : pw m ≤ 1024 := pw_le _ 10 (by omega)
  have p3 := pw_pos (e - 1)
  have p4 : pw (e - 1) ≤ 16 := pw_le _ 4 (by omega)
  have p5 : pw e ≤ 32 := pw_le _ 5 (by omega)
  have HS : Hid (scal e m b = fld e m (pexp e m b) (pman m b)) := Lib.hid rfl
  generalize scal e m b = D at *
  generalize pexp e m b = E at *
  generalize pman m b = M at *
  by_cases hz : E = 0
  · have HD : Hid (D = M * pw (25 - (pw (e - 1) - 1) - m)) := Lib.hid (by rw [HS.out, ← HB.out]; unfold fld; rw [if_pos hz, if_pos hz]; rfl)
    have bb' : 1 ≤ pw (e - 1) - 1 ∧ pw (e - 1) - 1 ≤ 15 := by have := HB.out; omega
    have bd' : 0 ≤ M * pw (25 - (pw (e - 1) - 1) - m) ∧ M * pw (25 - (pw (e - 1) - 1) - m) ≤ 2251799813685248 := by have := HD.out; omega
    have t1 : (E == 0) = true := by simpa using hz
    clear hz
    go_enter Tryz.func119, Tryz.ntmps119
    go_wp2_with (first | (go_at_call 134; refine (hE _ h1 h2 h3 h4 h5 h6).mono ?_; rintro _ _ ⟨rfl, B⟩; replace BB := bon BB B; replace c0 := cell_below B c0; replace c1 := cell_below B c1; replace c2 := cell_below B c2) | (go_at_call 120; refine (hM _ h3 h4 h5 h6).mono ?_; rintro _ _ ⟨rfl, B⟩; replace BB := bon BB B; replace c0 := cell_below B c0; replace c1 := cell_below B c1; replace c2 := cell_below B c2) | (go_at_call 121; refine (power_b _ _ (by omega) (by omega)).mono ?_; rintro _ _ ⟨rfl, B⟩; replace BB := bon BB B; replace c0 := cell_below B c0; replace c1 := cell_below B c1; replace c2 := cell_below B c2))
    go_ret
    exact ⟨ret_int HD.out.symm, BB⟩
  · have HD : Hid (D = (M + pw m) * pw (24 + E - (pw (e - 1) - 1) - m)) := Lib.hid (by rw [HS.out, ← HB.out]; unfold fld; rw [if_neg hz, if_neg hz])
    have bb' : 1 ≤ pw (e - 1) - 1 ∧ pw (e - 1) - 1 ≤ 15 := by have := HB.out; omega
    have bd' : 0 ≤ (M + pw m) * pw (24 + E - (pw (e - 1) - 1) - m) ∧ (M + pw m) * pw (24 + E - (pw (e - 1) - 1) - m) ≤ 2251799813685248 := by have := HD.out; omega
    have t1 : (E == 0) = false := by simpa using hz
    have e1 : 1 ≤ E := by omega
    clear hz
    go_enter Tryz.func119, Tryz.ntmps119
    go_wp2_with (first | (go_at_call 134; refine (hE _ h1 h2 h3 h4 h5 h6).mono ?_; rintro _ _ ⟨rfl, B⟩; replace BB := bon BB B; replace c0 := cell_below B c0; replace c1 := cell_below B c1; replace c2 := cell_below B c2) | (go_at_call 120; refine (hM _ h3 h4 h5 h6).mono ?_; rintro _ _ ⟨rfl, B⟩; replace BB := bon BB B; replace c0 := cell_below B c0; replace c1 := cell_below B c1; replace c2 := cell_below B c2) | (go_at_call 121; refine (power_b _ _ (by omega) (by omega)).mono ?_; rintro _ _ ⟨rfl, B⟩; replace BB := bon BB B; replace c0 := cell_below B c0; replace c1 := cell_below B c1; replace c2 := cell_below B c2))
    go_ret
    exact ⟨ret_int HD.out.symm, BB⟩

/-! ### Decode -/
theorem rdm_bd (e m b : Int) (h1 : 2 ≤ e) (h2 : e ≤ 5) (h3 : 1 ≤ m) (h4 : m ≤ 10) : 0 ≤ rdm e m b ∧ rdm e m b ≤ 1125899906842624 := by
  have := scal_bd e m b h1 h2 h3 h4
  unfold rdm; split
  · split <;> omega
  · omega

theorem rdecode_no (e m b : Int) (s : Bool) (w : World) (h : ¬ ((2 ≤ e ∧ e ≤ 5 ∧ 1 ≤ m ∧ m ≤ 10) ∧ 0 ≤ b ∧ b < pw (e + m + sbit s))) :
    Calls Tryz.prog 97 #[.agg #[.int .i64 e, .int .i64 m, .bool s], .int .i64 b] w fun x w' => x = .returned (.int .i64 0) ∧ Below w.heap.size w w' := by
  obtain ⟨c0, c1, c2, BB⟩ := box3 w (.int .i64 e) (.int .i64 m) (.bool s) 78
  have H := Lib.hid h
  clear h
  go_enter Tryz.func97, Tryz.ntmps97
  go_wp2_with (first | (go_at_call 117; refine (rpattern_no _ _ _ _ _ H.out).mono ?_; rintro _ _ ⟨rfl, B⟩; replace BB := bon BB B; replace c0 := cell_below B c0; replace c1 := cell_below B c1; replace c2 := cell_below B c2))
  go_ret
  exact ⟨rfl, BB⟩

theorem rdecode_yes (e m b : Int) (s : Bool) (w : World) (h1 : 2 ≤ e) (h2 : e ≤ 5) (h3 : 1 ≤ m) (h4 : m ≤ 10) (h5 : 0 ≤ b) (h6 : b < pw (e + m + sbit s)) :
    Calls Tryz.prog 97 #[.agg #[.int .i64 e, .int .i64 m, .bool s], .int .i64 b] w fun x w' => x = .returned (.int .i64 (decv e m b)) ∧ Below w.heap.size w w' := by
  obtain ⟨c0, c1, c2, BB⟩ := box3 w (.int .i64 e) (.int .i64 m) (.bool s) 78
  have sb := sbit_bd s
  have pb : pw (e + m + sbit s) ≤ 65536 := pw_le _ 16 (by omega)
  have rb := rdm_bd e m b h1 h2 h3 h4
  have sbd := scal_bd e m b h1 h2 h3 h4
  have hF := rfinite_yes e m b s
  have hM := rman_b e m b s
  have HV : Hid (decv e m b = if decide (pw (e + m) ≤ b) then -(if 536870911 < rdm e m b then 536870911 else rdm e m b) else (if 536870911 < rdm e m b then 536870911 else rdm e m b)) := Lib.hid (by
    unfold decv; rw [rdm_eq e m b h1 h2 h3 h4]; rfl)
  have HR : Hid (rdm e m b = if pexp e m b = pw e - 1 then (if pman m b = 0 then 536870911 else 0) else (scal e m b + 128) / 256) := Lib.hid rfl
  have hS : s = false → b < pw (e + m) := by rintro rfl; simpa [sbit] using h6
  have HSS := Lib.hid hS
  clear hS
  by_cases hs : pexp e m b = pw e - 1
  · have t1 : (pexp e m b != pw e - 1) = false := by simpa using hs
    by_cases hm : pman m b = 0
    · have HR2 : Hid (rdm e m b = 536870911) := Lib.hid (by rw [HR.out, if_pos hs, if_pos hm])
      have t2 : (pman m b == 0) = true := by simpa using hm
      clear hs hm
      go_enter Tryz.func97, Tryz.ntmps97
      go_wp2_with (first | (go_at_call 117; refine (rpattern_yes _ _ _ _ _ h1 h2 h3 h4 h5 h6).mono ?_; rintro _ _ ⟨rfl, B⟩; replace BB := bon BB B; replace c0 := cell_below B c0; replace c1 := cell_below B c1; replace c2 := cell_below B c2) | (go_at_call 118; refine (hF _ h1 h2 h3 h4 h5 h6).mono ?_; rintro _ _ ⟨rfl, B⟩; replace BB := bon BB B; replace c0 := cell_below B c0; replace c1 := cell_below B c1; replace c2 := cell_below B c2) | (go_at_call 120; refine (hM _ h3 h4 h5 (by omega)).mono ?_; rintro _ _ ⟨rfl, B⟩; replace BB := bon BB B; replace c0 := cell_below B c0; replace c1 := cell_below B c1; replace c2 := cell_below B c2) | (go_at_call 119; refine (rscaled_b _ _ _ _ _ h1 h2 h3 h4 h5 (by omega)).mono ?_; rintro _ _ ⟨rfl, B⟩; replace BB := bon BB B; replace c0 := cell_below B c0; replace c1 := cell_below B c1; replace c2 := cell_below B c2) | (go_at_call 121; refine (power_b _ _ (by omega) (by omega)).mono ?_; rintro _ _ ⟨rfl, B⟩; replace BB := bon BB B; replace c0 := cell_below B c0; replace c1 := cell_below B c1; replace c2 := cell_below B c2))
      all_goals go_ret
      all_goals exact ⟨ret_int (by have g := HSS.out; rw [HV.out, HR2.out]; simp_all <;> omega), BB⟩
    · have HR2 : Hid (rdm e m b = 0) := Lib.hid (by rw [HR.out, if_pos hs, if_neg hm])
      have t2 : (pman m b == 0) = false := by simpa using hm
      clear hs hm
      go_enter Tryz.func97, Tryz.ntmps97
      go_wp2_with (first | (go_at_call 117; refine (rpattern_yes _ _ _ _ _ h1 h2 h3 h4 h5 h6).mono ?_; rintro _ _ ⟨rfl, B⟩; replace BB := bon BB B; replace c0 := cell_below B c0; replace c1 := cell_below B c1; replace c2 := cell_below B c2) | (go_at_call 118; refine (hF _ h1 h2 h3 h4 h5 h6).mono ?_; rintro _ _ ⟨rfl, B⟩; replace BB := bon BB B; replace c0 := cell_below B c0; replace c1 := cell_below B c1; replace c2 := cell_below B c2) | (go_at_call 120; refine (hM _ h3 h4 h5 (by omega)).mono ?_; rintro _ _ ⟨rfl, B⟩; replace BB := bon BB B; replace c0 := cell_below B c0; replace c1 := cell_below B c1; replace c2 := cell_below B c2) | (go_at_call 119; refine (rscaled_b _ _ _ _ _ h1 h2 h3 h4 h5 (by omega)).mono ?_; rintro _ _ ⟨rfl, B⟩; replace BB := bon BB B; replace c0 := cell_below B c0; replace c1 := cell_below B c1; replace c2 := cell_below B c2) | (go_at_call 121; refine (power_b _ _ (by omega) (by omega)).mono ?_; rintro _ _ ⟨rfl, B⟩; replace BB := bon BB B; replace c0 := cell_below B c0; replace c1 := cell_below B c1; replace c2 := cell_below B c2))
      all_goals go_ret
      all_goals exact ⟨ret_int (by have g := HSS.out; rw [HV.out, HR2.out]; simp_all <;> omega), BB⟩
  · have HR2 : Hid (rdm e m b = (scal e m b + 128) / 256) := Lib.hid (by rw [HR.out, if_neg hs])
    have t1 : (pexp e m b != pw e - 1) = true := by simpa using hs
    clear hs
    go_enter Tryz.func97, Tryz.ntmps97
    go_wp2_with (first | (go_at_call 117; refine (rpattern_yes _ _ _ _ _ h1 h2 h3 h4 h5 h6).mono ?_; rintro _ _ ⟨rfl, B⟩; replace BB := bon BB B; replace c0 := cell_below B c0; replace c1 := cell_below B c1; replace c2 := cell_below B c2) | (go_at_call 118; refine (hF _ h1 h2 h3 h4 h5 h6).mono ?_; rintro _ _ ⟨rfl, B⟩; replace BB := bon BB B; replace c0 := cell_below B c0; replace c1 := cell_below B c1; replace c2 := cell_below B c2) | (go_at_call 120; refine (hM _ h3 h4 h5 (by omega)).mono ?_; rintro _ _ ⟨rfl, B⟩; replace BB := bon BB B; replace c0 := cell_below B c0; replace c1 := cell_below B c1; replace c2 := cell_below B c2) | (go_at_call 119; refine (rscaled_b _ _ _ _ _ h1 h2 h3 h4 h5 (by omega)).mono ?_; rintro _ _ ⟨rfl, B⟩; replace BB := bon BB B; replace c0 := cell_below B c0; replace c1 := cell_below B c1; replace c2 := cell_below B c2) | (go_at_call 121; refine (power_b _ _ (by omega) (by omega)).mono ?_; rintro _ _ ⟨rfl, B⟩; replace BB := bon BB B; replace c0 := cell_below B c0; replace c1 := cell_below B c1; replace c2 := cell_below B c2))
    all_goals go_ret
    all_goals exact ⟨ret_int (by have g := HSS.out; rw [HV.out, HR2.out]; simp_all <;> omega), BB⟩

end Go.Proofs.YtnhnbblplnhmlaaGreatDoor

/- What Encode and Quantize of the reference return. -/
namespace Go.Proofs.YtnhnbblplnhmlaaGreatDoor
open Go.RowKit Go.Sort

set_option maxRecDepth 100000 in
theorem rencode_no (e m x : Int) (s : Bool) (w : World) (h : ¬ (2 ≤ e ∧ e ≤ 5 ∧ 1 ≤ m ∧ m ≤ 10)) :
    Calls Tryz.prog 98 #[.agg #[.int .i64 e, .int .i64 m, .bool s], .int .i64 x] w fun y w' => y = .returned (.int .i64 0) ∧ Below w.heap.size w w' := by
  obtain ⟨c0, c1, c2, BB⟩ := box3 w (.int .i64 e) (.int .i64 m) (.bool s) 78
  have H := Lib.hid h
  clear h
  go_enter Tryz.func98, Tryz.ntmps98
  go_wp2_with (first | (go_at_call 122; refine (rvalid_no _ _ _ _ H.out).mono ?_; rintro _ _ ⟨rfl, B⟩; replace BB := bon BB B; replace c0 := cell_below B c0; replace c1 := cell_below B c1; replace c2 := cell_below B c2))
  go_ret
  exact ⟨rfl, BB⟩

/-- The absolute value of the saturated number. -/
def mag (x : Int) : Int := if x < 0 then -sat x else sat x
theorem mag_bd (x : Int) : 0 ≤ mag x ∧ mag x < 536870912 := by
  have := sat_bd x
  have := sat_neg_iff x
  unfold mag; split <;> omega

set_option maxRecDepth 100000 in
set_option maxHeartbeats 1000000 in
theorem rencode_loop (e m x y : Int) (s : Bool) (w : World) (h1 : 2 ≤ e) (h2 : e ≤ 5) (h3 : 1 ≤ m) (h4 : m ≤ 10) (hs : x < 0 → s = true)
    (hy : y = if x < 0 ∧ 0 < encm e m (mag x) then encm e m (mag x) + pw (e + m) else encm e m (mag x)) :
    Calls Tryz.prog 98 #[.agg #[.int .i64 e, .int .i64 m, .bool s], .int .i64 x] w fun z w' => z = .returned (.int .i64 y) ∧ Below w.heap.size w w' := by
  obtain ⟨c0, c1, c2, BB⟩ := box3 w (.int .i64 e) (.int .i64 m) (.bool s) 78
  have HY := Lib.hid hy
  clear hy
  have mb := mag_bd x
  have tb := sat_bd x
  have HM : Hid (mag x = if x < 0 then -sat x else sat x) := Lib.hid rfl
  have HT : Hid (sat x = if x < -536870911 then -536870911 else if 536870911 < x then 536870911 else x) := Lib.hid rfl
  have ob := most_bd e m h1 h3
  have HO : Hid (most e m = (pw e - 1) * pw m - 1) := Lib.hid rfl
  have p1 := pw_pos m
  have p2 : pw m ≤ 1024 := pw_le _ 10 (by omega)
  have p3 := pw_pos e
  have p4 : pw e ≤ 32 := pw_le _ 5 (by omega)
  have p5 : pw e * pw m ≤ 32768 := by rw [← pw_em e m h1 h3]; exact pw_le _ 15 (by omega)
  have i1 : IntKind.i64.wrap (pw e - 1) = pw e - 1 := IntWalk.i64_in _ (by omega)
  have m1 := mul_bd (pw e - 1) (pw m) 32 1024 (by omega) (by omega) (by omega) (by omega)
  have i2 : IntKind.i64.wrap ((pw e - 1) * pw m) = (pw e - 1) * pw m := IntWalk.i64_in _ (by omega)
  have i3 : IntKind.i64.wrap ((pw e - 1) * pw m - 1) = (pw e - 1) * pw m - 1 := IntWalk.i64_in _ (by omega)
  have hc : (x < -536870911 ∧ 137438953216 = 256 * mag x) ∨ (-536870911 ≤ x ∧ x < 0 ∧ -x * 256 = 256 * mag x) ∨ (0 ≤ x ∧ x ≤ 536870911 ∧ x * 256 = 256 * mag x) ∨ (536870911 < x ∧ 137438953216 = 256 * mag x) := by
    have a := HM.out
    have b := HT.out
    rcases Int.lt_or_le x (-536870911) with h | h
    · left; rw [if_pos (by omega)] at a; rw [if_pos h] at b; omega
    · right
      rcases Int.lt_or_le x 0 with h' | h'
      · left; rw [if_pos h'] at a; rw [if_neg (by omega), if_neg (by omega)] at b; omega
      · right
        rw [if_neg (by omega)] at a
        rcases Int.lt_or_le 536870911 x with h2 | h2
        · right; rw [if_neg (by omega), if_pos h2] at b; omega
        · left; rw [if_neg (by omega), if_neg (by omega)] at b; omega
  have hsx := Lib.hid hs
  clear hs
  generalize mag x = g at *
  have st := Lp.start e m g h1 h2 h3 h4 mb.1 mb.2
  have hend := pmx_end e m g h1 h2 h3 h4 mb.1 mb.2
  have hpb := pmx_bd e m g h1 h2 h3 h4 mb.1 mb.2
  have HE := Lib.hid hend
  clear hend HM HT
  rcases hc with ⟨hx1, hT⟩ | ⟨hx1, hx2, hT⟩ | ⟨hx1, hx2, hT⟩ | ⟨hx1, hT⟩
  all_goals
    have HTT := Lib.hid hT
    clear hT
    first
      | (have hx0 : x < 0 := (by omega); obtain rfl := hsx.out hx0)
      | skip
    go_enter Tryz.func98, Tryz.ntmps98
    go_wp2_with (first | (go_at_call 122; refine (rvalid_yes _ _ _ _ h1 h2 h3 h4).mono ?_; rintro _ _ ⟨rfl, B⟩; replace BB := bon BB B; replace c0 := cell_below B c0; replace c1 := cell_below B c1; replace c2 := cell_below B c2))
    have k_c0 := cell_regrown c0
    have k_c1 := cell_regrown c1
    have k_c2 := cell_regrown c2
    refine wp_region_quiet_below (by kernel_rfl) (by kernel_rfl) ?_
    repeat (first | go_big_quiet_step ((first | (go_at_call 121; exact Calls.regrown_of (power_b _ _ (by omega) (by omega))))) | quiet_step ((first | (go_at_call 121; exact Calls.regrown_of (power_b _ _ (by omega) (by omega))))))
    refine wpQuiet_nil ?_
    intro W hw'
    have B := below_regrown' hw'
    clear hw' k_c0 k_c1 k_c2
    replace BB := bon BB B
    replace c0 := cell_below B c0
    replace c1 := cell_below B c1
    replace c2 := cell_below B c2
    go_wp2_with fail
  generalize (137438953216 : Int) = T at *
  rotate_left
  generalize -x * 256 = T at *
  rotate_left
  generalize x * 256 = T at *
  rotate_left
  generalize (137438953216 : Int) = T at *
  rotate_left
  all_goals
    have T1 : T ≤ 256 * g := by have := HTT.out; omega
    have T2 : 256 * g ≤ T := by have := HTT.out; omega
    go_loopw [7, 8] (fun p i wr => ∃ P I : Int, ∃ r : Bool, Lp e m g I P ∧ p = .int .i64 P ∧ i = .int .i64 I ∧ Below w.heap.size w wr ∧ wr.cell? ⟨w.heap.size, 0, none⟩ = some (.int .i64 e) ∧ wr.cell? ⟨w.heap.size, 1, none⟩ = some (.int .i64 m) ∧ wr.cell? ⟨w.heap.size, 2, none⟩ = some (.bool r)) (fun _ i _ => (intOf i + 1).toNat)
    case atStart => exact ⟨0, e + m - 1, _, st, rfl, rfl, BB, c0, c1, c2⟩
    case round =>
      clear BB c0 c1 c2
      obtain ⟨P, I, r, hL, rfl, rfl, BB, c0, c1, c2⟩ := hrel
      have hL2 := hL
      obtain ⟨l1, l2, l3, l4, l5⟩ := hL2
      have HL := Lib.hid hL
      clear hL
      by_cases hI : 0 ≤ I
      · have w1 := pw_pos I
        have w2 : pw I ≤ 16384 := pw_le I 14 (by omega)
        have hiff := pmx_iff e m g (P + pw I) h1 h2 h3 h4 mb.1 mb.2 (by omega)
        have ho := HO.out
        by_cases hq : P + pw I ≤ pmx e m g
        · have hq2 := hiff.2 hq
          have hq3 : P + pw I ≤ (pw e - 1) * pw m - 1 := by omega
          have hq4 : scal e m (P + pw I) ≤ T := by omega
          clear hiff ho hq2
          go_wp2_with (first | (go_at_call 121; refine (power_b _ _ (by omega) (by omega)).mono ?_; rintro _ _ ⟨rfl, B⟩; replace BB := bon BB B; replace c0 := cell_below B c0; replace c1 := cell_below B c1; replace c2 := cell_below B c2) | (go_at_call 119; refine (rscaled_b _ _ _ _ _ h1 h2 h3 h4 (by omega) (by omega)).mono ?_; rintro _ _ ⟨rfl, B⟩; replace BB := bon BB B; replace c0 := cell_below B c0; replace c1 := cell_below B c1; replace c2 := cell_below B c2))
          go_roundw
          case rel => exact ⟨_, _, _, HL.out.yes hI hq, rfl, rfl, BB, c0, c1, c2⟩
          case measure => simp [intOf]; omega
        · by_cases hq2 : P + pw I ≤ (pw e - 1) * pw m - 1
          · have hq4 : T < scal e m (P + pw I) := by
              apply Classical.byContradiction; intro hn
              exact hq (hiff.1 ⟨by omega, by omega⟩)
            clear hiff ho
            go_wp2_with (first | (go_at_call 121; refine (power_b _ _ (by omega) (by omega)).mono ?_; rintro _ _ ⟨rfl, B⟩; replace BB := bon BB B; replace c0 := cell_below B c0; replace c1 := cell_below B c1; replace c2 := cell_below B c2) | (go_at_call 119; refine (rscaled_b _ _ _ _ _ h1 h2 h3 h4 (by omega) (by omega)).mono ?_; rintro _ _ ⟨rfl, B⟩; replace BB := bon BB B; replace c0 := cell_below B c0; replace c1 := cell_below B c1; replace c2 := cell_below B c2))
            go_roundw
            case rel => exact ⟨_, _, _, HL.out.no hI (by omega), rfl, rfl, BB, c0, c1, c2⟩
            case measure => simp [intOf]; omega
          · clear hiff ho
            go_wp2_with (first | (go_at_call 121; refine (power_b _ _ (by omega) (by omega)).mono ?_; rintro _ _ ⟨rfl, B⟩; replace BB := bon BB B; replace c0 := cell_below B c0; replace c1 := cell_below B c1; replace c2 := cell_below B c2) | (go_at_call 119; refine (rscaled_b _ _ _ _ _ h1 h2 h3 h4 (by omega) (by omega)).mono ?_; rintro _ _ ⟨rfl, B⟩; replace BB := bon BB B; replace c0 := cell_below B c0; replace c1 := cell_below B c1; replace c2 := cell_below B c2))
            go_roundw
            case rel => exact ⟨_, _, _, HL.out.no hI (by omega), rfl, rfl, BB, c0, c1, c2⟩
            case measure => simp [intOf]; omega
      · obtain rfl : I = -1 := by omega
        have hP := HL.out.done
        obtain ⟨E1, E2⟩ := HE.out
        rw [← hP] at E1 E2
        have ho := HO.out
        have w1 := pw_pos (e + m)
        have w2 : pw (e + m) ≤ 32768 := pw_le (e + m) 15 (by omega)
        by_cases hl : P < (pw e - 1) * pw m - 1
        · obtain ⟨g1, g2, g3⟩ := E2 (by omega)
          have HG := Lib.hid g3
          have sb1 := scal_bd e m P h1 h2 h3 h4
          have sb2 := scal_bd e m (P + 1) h1 h2 h3 h4
          clear E1 E2 g3 hP ho
          go_wp2_with (first | (go_at_call 121; refine (power_b _ _ (by omega) (by omega)).mono ?_; rintro _ _ ⟨rfl, B⟩; replace BB := bon BB B; replace c0 := cell_below B c0; replace c1 := cell_below B c1; replace c2 := cell_below B c2) | (go_at_call 119; refine (rscaled_b _ _ _ _ _ h1 h2 h3 h4 (by omega) (by omega)).mono ?_; rintro _ _ ⟨rfl, B⟩; replace BB := bon BB B; replace c0 := cell_below B c0; replace c1 := cell_below B c1; replace c2 := cell_below B c2))
          all_goals go_ret
          all_goals refine ⟨ret_int ?_, BB⟩
          all_goals rw [HY.out]
          all_goals have hg := HG.out
          all_goals clear HG HY HO HL HE HTT
          all_goals (generalize encm e m g = E at *)
          all_goals (try simp only [beq_iff_eq, beq_eq_false_iff_ne, ne_eq] at *)
          all_goals first
            | (split at hg <;> split <;> omega)
            | (split <;> omega)
        · have HG := Lib.hid (E1 (by omega))
          clear E1 E2 hP ho
          go_wp2_with (first | (go_at_call 121; refine (power_b _ _ (by omega) (by omega)).mono ?_; rintro _ _ ⟨rfl, B⟩; replace BB := bon BB B; replace c0 := cell_below B c0; replace c1 := cell_below B c1; replace c2 := cell_below B c2) | (go_at_call 119; refine (rscaled_b _ _ _ _ _ h1 h2 h3 h4 (by omega) (by omega)).mono ?_; rintro _ _ ⟨rfl, B⟩; replace BB := bon BB B; replace c0 := cell_below B c0; replace c1 := cell_below B c1; replace c2 := cell_below B c2))
          all_goals go_ret
          all_goals refine ⟨ret_int ?_, BB⟩
          all_goals rw [HY.out]
          all_goals have hg := HG.out
          all_goals clear HG HY HO HL HE HTT
          all_goals (generalize encm e m g = E at *)
          all_goals (try simp only [beq_iff_eq, beq_eq_false_iff_ne, ne_eq] at *)
          all_goals first
            | (split at hg <;> split <;> omega)
            | (split <;> omega)

/-- A negative number in a format without sign. -/
theorem rencode_neg (e m x : Int) (w : World) (h1 : 2 ≤ e) (h2 : e ≤ 5) (h3 : 1 ≤ m) (h4 : m ≤ 10) (hx : x < 0) :
    Calls Tryz.prog 98 #[.agg #[.int .i64 e, .int .i64 m, .bool false], .int .i64 x] w fun y w' => y = .returned (.int .i64 0) ∧ Below w.heap.size w w' := by
  obtain ⟨c0, c1, c2, BB⟩ := box3 w (.int .i64 e) (.int .i64 m) (.bool false) 78
  go_enter Tryz.func98, Tryz.ntmps98
  go_wp2_with (first | (go_at_call 122; refine (rvalid_yes _ _ _ _ h1 h2 h3 h4).mono ?_; rintro _ _ ⟨rfl, B⟩; replace BB := bon BB B; replace c0 := cell_below B c0; replace c1 := cell_below B c1; replace c2 := cell_below B c2))
  go_ret
  exact ⟨rfl, BB⟩

theorem rencode_yes (e m x : Int) (s : Bool) (w : World) (h1 : 2 ≤ e) (h2 : e ≤ 5) (h3 : 1 ≤ m) (h4 : m ≤ 10) :
    Calls Tryz.prog 98 #[.agg #[.int .i64 e, .int .i64 m, .bool s], .int .i64 x] w fun y w' => y = .returned (.int .i64 (encv e m s x)) ∧ Below w.heap.size w w' := by
  have hb := encm_bd e m (mag x) h1 h2 h3 h4 (mag_bd x).1 (mag_bd x).2
  by_cases hx : 0 ≤ x
  · have hm : mag x = sat x := by unfold mag; rw [if_neg (by omega)]
    exact rencode_loop e m x _ s w h1 h2 h3 h4 (by omega) (by unfold encv; rw [if_pos hx, if_neg (by omega), hm])
  · have hm : mag x = -sat x := by unfold mag; rw [if_pos (by omega)]
    rw [hm] at hb
    cases s with
    | false =>
      have e1 : encv e m false x = 0 := by unfold encv; rw [if_neg hx]; rfl
      rw [e1]; exact rencode_neg e m x w h1 h2 h3 h4 (by omega)
    | true =>
      refine rencode_loop e m x _ true w h1 h2 h3 h4 (fun _ => rfl) ?_
      unfold encv
      rw [if_neg hx, hm]; simp only [if_true]
      split <;> split <;> omega

theorem rquantize_yes (e m x : Int) (s : Bool) (w : World) (h1 : 2 ≤ e) (h2 : e ≤ 5) (h3 : 1 ≤ m) (h4 : m ≤ 10) :
    Calls Tryz.prog 65 #[.agg #[.int .i64 e, .int .i64 m, .bool s], .int .i64 x] w fun y w' => y = .returned (.int .i64 (decv e m (encv e m s x))) ∧ Below w.heap.size w w' := by
  obtain ⟨c0, c1, c2, BB⟩ := box3 w (.int .i64 e) (.int .i64 m) (.bool s) 78
  obtain ⟨b1, b2⟩ := encv_bd e m x s h1 h2 h3 h4
  go_enter Tryz.func65, Tryz.ntmps65
  go_wp2
  have k_c0 := cell_regrown c0
  have k_c1 := cell_regrown c1
  have k_c2 := cell_regrown c2
  refine wp_region_quiet_below (by kernel_rfl) (by kernel_rfl) ?_
  repeat (first | go_big_quiet_step ((first | (go_at_call 98; exact Calls.regrown_of (rencode_yes _ _ _ _ _ h1 h2 h3 h4)) | (go_at_call 97; exact Calls.regrown_of (rdecode_yes _ _ _ _ _ h1 h2 h3 h4 b1 b2)))) | quiet_step ((first | (go_at_call 98; exact Calls.regrown_of (rencode_yes _ _ _ _ _ h1 h2 h3 h4)) | (go_at_call 97; exact Calls.regrown_of (rdecode_yes _ _ _ _ _ h1 h2 h3 h4 b1 b2)))))
  refine wpQuiet_nil ?_
  intro W hw'
  have B := below_regrown' hw'
  clear hw' k_c0 k_c1 k_c2
  replace BB := bon BB B
  replace c0 := cell_below B c0
  replace c1 := cell_below B c1
  replace c2 := cell_below B c2
  go_wp2
  go_ret
  exact ⟨rfl, BB⟩

theorem rquantize_no (e m x : Int) (s : Bool) (w : World) (h : ¬ (2 ≤ e ∧ e ≤ 5 ∧ 1 ≤ m ∧ m ≤ 10)) :
    Calls Tryz.prog 65 #[.agg #[.int .i64 e, .int .i64 m, .bool s], .int .i64 x] w fun y w' => y = .returned (.int .i64 0) ∧ Below w.heap.size w w' := by
  obtain ⟨c0, c1, c2, BB⟩ := box3 w (.int .i64 e) (.int .i64 m) (.bool s) 78
  have H := Lib.hid h
  clear h
  go_enter Tryz.func65, Tryz.ntmps65
  go_wp2
  have k_c0 := cell_regrown c0
  have k_c1 := cell_regrown c1
  have k_c2 := cell_regrown c2
  refine wp_region_quiet_below (by kernel_rfl) (by kernel_rfl) ?_
  repeat (first | go_big_quiet_step ((first | (go_at_call 98; exact Calls.regrown_of (rencode_no _ _ _ _ _ H.out)) | (go_at_call 97; exact Calls.regrown_of (rdecode_no _ _ _ _ _ (fun h => H.out h.1))))) | quiet_step ((first | (go_at_call 98; exact Calls.regrown_of (rencode_no _ _ _ _ _ H.out)) | (go_at_call 97; exact Calls.regrown_of (rdecode_no _ _ _ _ _ (fun h => H.out h.1))))))
  refine wpQuiet_nil ?_
  intro W hw'
  have B := below_regrown' hw'
  clear hw' k_c0 k_c1 k_c2
  replace BB := bon BB B
  replace c0 := cell_below B c0
  replace c1 := cell_below B c1
  replace c2 := cell_below B c2
  go_wp2
  go_ret
  exact ⟨rfl, BB⟩

end Go.Proofs.YtnhnbblplnhmlaaGreatDoor
