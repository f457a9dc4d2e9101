/- Patterns with a sign: decoding, encoding and rounding, and what the laws of small formats ask of them. No program is named here. -/
import Derived.Test.YtfakmeimideoaaaMMath2
namespace Go.Proofs.Ytfakmeimideoaaa
open Go.RowKit

theorem pw_em (e m : Int) (h1 : 2 ≤ e) (h3 : 1 ≤ m) : pw (e + m) = pw e * pw m := pw_add e m (by omega) (by omega)

/-! ### the fields of a pattern with its sign bit set -/
theorem pexp_high (e m p : Int) (h1 : 2 ≤ e) (h3 : 1 ≤ m) : pexp e m (pw (e + m) + p) = pexp e m p := by
  have b := pw_pos m
  unfold pexp
  rw [pw_em e m h1 h3, Int.add_comm, Int.add_mul_ediv_right _ _ (by omega), Int.add_emod_right]
theorem pman_high (e m p : Int) (h1 : 2 ≤ e) (h3 : 1 ≤ m) : pman m (pw (e + m) + p) = pman m p := by
  unfold pman
  rw [pw_em e m h1 h3, Int.add_comm, Int.add_mul_emod_self_right]
theorem pneg_low (e m p : Int) (h : p < pw (e + m)) : pneg e m p = false := by unfold pneg; simpa using h
theorem pneg_high (e m p : Int) (h : 0 ≤ p) : pneg e m (pw (e + m) + p) = true := by unfold pneg; simp; omega

theorem special_iff (e m p : Int) (h1 : 2 ≤ e) (h3 : 1 ≤ m) (h0 : 0 ≤ p) (hp : p < pw (e + m)) : (pexp e m p = pw e - 1 ↔ most e m < p) := by
  have b1 := pw_pos m
  rw [pw_em e m h1 h3] at hp
  have q0 : 0 ≤ p / pw m := Int.ediv_nonneg h0 (by omega)
  have q1 : p / pw m < pw e := Int.ediv_lt_of_lt_mul (by omega) hp
  have e1 : pexp e m p = p / pw m := by unfold pexp; rw [Int.emod_eq_of_lt q0 q1]
  have h2 : pw e - 1 ≤ p / pw m ↔ (pw e - 1) * pw m ≤ p := Int.le_ediv_iff_mul_le (by omega)
  rw [e1]; unfold most; omega

/-- A pattern without sign that denotes a number decodes to its rounded number. -/
theorem decm_eq (e m p : Int) (h1 : 2 ≤ e) (h2 : e ≤ 5) (h3 : 1 ≤ m) (h4 : m ≤ 10) (h0 : 0 ≤ p) (hp : p ≤ most e m) : decm e m (pexp e m p) (pman m p) = dq e m p := by
  have mb := most_bd e m h1 h3
  have hs := special_iff e m p h1 h3 h0 (by rw [pw_em e m h1 h3]; omega)
  obtain ⟨a0, a1⟩ := pexp_bd e m p
  obtain ⟨b0, b1⟩ := pman_bd m p
  unfold decm dq
  rw [if_neg (by omega), decu_eq e m _ _ h1 h2 h3 h4 a0 a1 b0 b1, ← scal_V e m p h0 (by omega)]
  rfl

theorem decv_low (e m p : Int) (h1 : 2 ≤ e) (h2 : e ≤ 5) (h3 : 1 ≤ m) (h4 : m ≤ 10) (h0 : 0 ≤ p) (hp : p ≤ most e m) : decv e m p = dq e m p := by
  have mb := most_bd e m h1 h3
  unfold decv
  rw [pneg_low e m p (by rw [pw_em e m h1 h3]; omega), if_neg (by simp), decm_eq e m p h1 h2 h3 h4 h0 hp]
theorem decv_high (e m p : Int) (h1 : 2 ≤ e) (h2 : e ≤ 5) (h3 : 1 ≤ m) (h4 : m ≤ 10) (h0 : 0 ≤ p) (hp : p ≤ most e m) : decv e m (pw (e + m) + p) = -dq e m p := by
  unfold decv
  rw [pneg_high e m p h0, if_pos rfl, pexp_high e m p h1 h3, pman_high e m p h1 h3, decm_eq e m p h1 h2 h3 h4 h0 hp]

theorem dq_zero (e m : Int) : dq e m 0 = 0 := by unfold dq; rw [V_zero]; rfl
theorem dq_bd (e m p : Int) (h1 : 2 ≤ e) (h2 : e ≤ 5) (h4 : m ≤ 10) (h0 : 0 ≤ p) : 0 ≤ dq e m p ∧ dq e m p ≤ 536870911 := by
  have bb := biasv_bd h1 h2
  have := V_nonneg e m p (by omega) h0
  have h := sat_bd ((V e m p + 128) / 256)
  refine ⟨?_, h.2⟩
  unfold dq
  have := sat_mono 0 ((V e m p + 128) / 256) (by omega)
  have z : sat 0 = 0 := rfl
  omega
theorem dq_mono (e m p p' : Int) (h1 : 2 ≤ e) (h2 : e ≤ 5) (h4 : m ≤ 10) (h0 : 0 ≤ p) (hp : p ≤ p') : dq e m p ≤ dq e m p' := by
  have bb := biasv_bd h1 h2
  have := V_le e m p p' (by omega) h0 hp
  exact sat_mono _ _ (by omega)

/-! ### Quantize -/
/-- Of a number that is saturated and not negative. -/
def Q (e m x : Int) : Int := dq e m (encm e m x)
def qv (e m : Int) (s : Bool) (x : Int) : Int := decv e m (encv e m s x)
theorem qv_eq (e m : Int) (s : Bool) (x : Int) (h1 : 2 ≤ e) (h2 : e ≤ 5) (h3 : 1 ≤ m) (h4 : m ≤ 10) :
    qv e m s x = if 0 ≤ x then Q e m (sat x) else if s then -Q e m (-sat x) else 0 := by
  have bs := sat_bd x
  have bn := sat_neg_iff x
  have mb := most_bd e m h1 h3
  unfold qv encv Q
  by_cases hx : 0 ≤ x
  · obtain ⟨c0, c1⟩ := encm_in e m (sat x) h1 h2 h3 h4 (by omega) (by omega)
    rw [if_pos hx, if_pos hx, decv_low e m _ h1 h2 h3 h4 c0 c1]
  · obtain ⟨c0, c1⟩ := encm_in e m (-sat x) h1 h2 h3 h4 (by omega) (by omega)
    rw [if_neg hx, if_neg hx]
    cases s with
    | false => simp only [Bool.false_eq_true, if_false]; rw [decv_low e m 0 h1 h2 h3 h4 (by omega) (by omega), dq_zero]
    | true =>
      simp only [if_true]
      by_cases hz : encm e m (-sat x) = 0
      · rw [if_pos hz, hz, decv_low e m 0 h1 h2 h3 h4 (by omega) (by omega), dq_zero]; rfl
      · rw [if_neg hz, decv_high e m _ h1 h2 h3 h4 c0 c1]

theorem Q_bd (e m x : Int) (h1 : 2 ≤ e) (h2 : e ≤ 5) (h3 : 1 ≤ m) (h4 : m ≤ 10) (h5 : 0 ≤ x) (h6 : x < 536870912) : 0 ≤ Q e m x ∧ Q e m x ≤ 536870911 :=
  dq_bd e m _ h1 h2 h4 (encm_in e m x h1 h2 h3 h4 h5 h6).1
theorem Q_mono (e m x y : Int) (h1 : 2 ≤ e) (h2 : e ≤ 5) (h3 : 1 ≤ m) (h4 : m ≤ 10) (h5 : 0 ≤ x) (hxy : x ≤ y) (h6 : y < 536870912) : Q e m x ≤ Q e m y :=
  dq_mono e m _ _ h1 h2 h4 (encm_in e m x h1 h2 h3 h4 h5 (by omega)).1 (encm_mono e m x y h1 h2 h3 h4 h5 hxy h6)

theorem qv_bd (e m : Int) (s : Bool) (x : Int) (h1 : 2 ≤ e) (h2 : e ≤ 5) (h3 : 1 ≤ m) (h4 : m ≤ 10) : -536870911 ≤ qv e m s x ∧ qv e m s x ≤ 536870911 := by
  have bs := sat_bd x
  have bn := sat_neg_iff x
  rw [qv_eq e m s x h1 h2 h3 h4]
  by_cases hx : 0 ≤ x
  · have := Q_bd e m (sat x) h1 h2 h3 h4 (by omega) (by omega); rw [if_pos hx]; omega
  · have := Q_bd e m (-sat x) h1 h2 h3 h4 (by omega) (by omega); rw [if_neg hx]; split <;> omega

theorem qv_mono (e m : Int) (s : Bool) (x y : Int) (h1 : 2 ≤ e) (h2 : e ≤ 5) (h3 : 1 ≤ m) (h4 : m ≤ 10) (h : x ≤ y) : qv e m s x ≤ qv e m s y := by
  have bx := sat_bd x
  have nx := sat_neg_iff x
  have by' := sat_bd y
  have ny := sat_neg_iff y
  have hm := sat_mono x y h
  rw [qv_eq e m s x h1 h2 h3 h4, qv_eq e m s y h1 h2 h3 h4]
  by_cases hx : 0 ≤ x
  · rw [if_pos hx, if_pos (show 0 ≤ y by omega)]
    exact Q_mono e m _ _ h1 h2 h3 h4 (by omega) hm (by omega)
  · have := Q_bd e m (-sat x) h1 h2 h3 h4 (by omega) (by omega)
    rw [if_neg hx]
    by_cases hy : 0 ≤ y
    · have := Q_bd e m (sat y) h1 h2 h3 h4 (by omega) (by omega)
      rw [if_pos hy]; split <;> omega
    · rw [if_neg hy]
      have := Q_mono e m (-sat y) (-sat x) h1 h2 h3 h4 (by omega) (by omega) (by omega)
      split <;> omega

/-! ### formats of at most four exponent bits: every number is exact -/
theorem V_256 (e m p : Int) (h1 : 2 ≤ e) (h2 : e ≤ 4) (h3 : 1 ≤ m) (h4 : m ≤ 10) (h0 : 0 ≤ p) (hp : p ≤ most e m) : V e m p % 256 = 0 ∧ V e m p < 137438953216 := by
  have mb := most_bd e m h1 h3
  have bb := biasv_bd h1 (show e ≤ 5 by omega)
  have b7 : biasv e ≤ 7 := by have := pw_le (e - 1) 3 (by omega); have t : pw 3 = 8 := rfl; unfold biasv; omega
  have hj := vj_pos m p
  constructor
  · unfold V
    have : pw (24 - biasv e - m + vj m p) = 256 * pw (16 - biasv e - m + vj m p) := by
      rw [show 24 - biasv e - m + vj m p = 8 + (16 - biasv e - m + vj m p) by omega, pw_add _ _ (by omega) (by omega)]; rfl
    rw [this, ← Int.mul_assoc, Int.mul_comm _ 256, Int.mul_assoc]; omega
  · rw [← scal_V e m p h0 (by omega)]
    obtain ⟨a0, a1⟩ := pexp_bd e m p
    obtain ⟨b0, b1⟩ := pman_bd m p
    have p1 : pw m ≤ 1024 := pw_le m 10 h4
    have c1 : 24 + (if pexp e m p = 0 then 1 else pexp e m p) - biasv e - m ≤ 24 + 8 - m := by
      have t2 : pw 2 = 4 := rfl
      have t3 : pw 3 = 8 := rfl
      have t4 : pw 4 = 16 := rfl
      have t1 : pw 1 = 2 := rfl
      have : e = 2 ∨ e = 3 ∨ e = 4 := by omega
      unfold biasv
      rcases this with rfl | rfl | rfl <;> simp only [show (2:Int) - 1 = 1 from rfl, show (3:Int) - 1 = 2 from rfl, show (4:Int) - 1 = 3 from rfl] at * <;> split <;> omega
    have b4 := pw_le _ _ c1
    have b5 := pw_pos (24 + (if pexp e m p = 0 then 1 else pexp e m p) - biasv e - m)
    have b6 : 0 ≤ (if pexp e m p = 0 then pman m p else pman m p + pw m) ∧ (if pexp e m p = 0 then pman m p else pman m p + pw m) ≤ 2 * pw m := by split <;> omega
    have h := mul_bd _ _ _ _ b6.1 b6.2 (by omega) b4
    have e1 : 2 * pw m * pw (24 + 8 - m) = 2 * pw 32 := by
      rw [Int.mul_assoc, ← pw_add _ _ (by omega) (by omega)]; congr 2; omega
    have e2 : pw 32 = 4294967296 := rfl
    unfold scal fld; omega

theorem dq_exact (e m p : Int) (h1 : 2 ≤ e) (h2 : e ≤ 4) (h3 : 1 ≤ m) (h4 : m ≤ 10) (h0 : 0 ≤ p) (hp : p ≤ most e m) : V e m p = 256 * dq e m p := by
  obtain ⟨a, b⟩ := V_256 e m p h1 h2 h3 h4 h0 hp
  have bb := biasv_bd h1 (show e ≤ 5 by omega)
  have := V_nonneg e m p (by omega) h0
  unfold dq
  rw [sat_id _ (by omega) (by omega)]; omega

theorem encm_dq (e m p : Int) (h1 : 2 ≤ e) (h2 : e ≤ 4) (h3 : 1 ≤ m) (h4 : m ≤ 10) (h0 : 0 ≤ p) (hp : p ≤ most e m) : encm e m (dq e m p) = p := by
  obtain ⟨a, b⟩ := dq_bd e m p h1 (by omega) h4 h0
  exact encm_exact e m _ p h1 (by omega) h3 h4 a (by omega) h0 hp (dq_exact e m p h1 h2 h3 h4 h0 hp)

theorem dq_pos (e m p : Int) (h1 : 2 ≤ e) (h2 : e ≤ 4) (h3 : 1 ≤ m) (h4 : m ≤ 10) (h0 : 0 ≤ p) (hp : p ≤ most e m) (hz : dq e m p = 0) : p = 0 := by
  have h := dq_exact e m p h1 h2 h3 h4 h0 hp
  have bb := biasv_bd h1 (show e ≤ 5 by omega)
  apply Classical.byContradiction; intro hn
  have := V_lt e m 0 p (by omega) (by omega) (by omega)
  rw [V_zero] at this; omega

/-- A pattern that denotes a number: without sign, or with. -/
theorem finite_cases (e m b : Int) (s : Bool) (h1 : 2 ≤ e) (h3 : 1 ≤ m) (h5 : 0 ≤ b) (h6 : b < pw (e + m + sbit s)) (hf : pexp e m b ≠ pw e - 1) :
    (b ≤ most e m) ∨ (s = true ∧ ∃ p, b = pw (e + m) + p ∧ 0 ≤ p ∧ p ≤ most e m) := by
  by_cases hb : b < pw (e + m)
  · left
    have := special_iff e m b h1 h3 h5 hb
    omega
  · right
    cases s with
    | false => exfalso; simp only [sbit, Bool.false_eq_true, if_false, Int.add_zero] at h6; omega
    | true =>
      have e1 : pw (e + m + sbit true) = 2 * pw (e + m) := pw_succ (e + m) (by omega)
      refine ⟨rfl, b - pw (e + m), by omega, by omega, ?_⟩
      have h := pexp_high e m (b - pw (e + m)) h1 h3
      rw [show pw (e + m) + (b - pw (e + m)) = b by omega] at h
      have := special_iff e m (b - pw (e + m)) h1 h3 (by omega) (by omega)
      omega

theorem roundtrip (e m b : Int) (s : Bool) (h1 : 2 ≤ e) (h2 : e ≤ 4) (h3 : 1 ≤ m) (h4 : m ≤ 10) (h5 : 0 ≤ b) (h6 : b < pw (e + m + sbit s)) (hf : pexp e m b ≠ pw e - 1) (hz : ¬ (0 < b ∧ decv e m b = 0)) :
    encv e m s (decv e m b) = b := by
  rcases finite_cases e m b s h1 h3 h5 h6 hf with hb | ⟨rfl, p, rfl, p0, p1⟩
  · obtain ⟨a, c⟩ := dq_bd e m b h1 (by omega) h4 h5
    rw [decv_low e m b h1 (by omega) h3 h4 h5 hb]
    unfold encv
    rw [if_pos a, sat_id _ (by omega) (by omega), encm_dq e m b h1 h2 h3 h4 h5 hb]
  · obtain ⟨a, c⟩ := dq_bd e m p h1 (by omega) h4 p0
    have b1 := pw_pos (e + m)
    rw [decv_high e m p h1 (by omega) h3 h4 p0 p1] at *
    have hp : p ≠ 0 := by
      intro h; subst h
      rw [dq_zero] at hz
      exact hz ⟨by omega, by omega⟩
    unfold encv
    rw [if_neg (by omega), if_pos rfl, sat_neg, sat_id (dq e m p) (by omega) (by omega), Int.neg_neg, encm_dq e m p h1 h2 h3 h4 p0 p1, if_neg hp]

theorem zero_only (e m b : Int) (s : Bool) (h1 : 2 ≤ e) (h2 : e ≤ 4) (h3 : 1 ≤ m) (h4 : m ≤ 10) (h5 : 0 ≤ b) (h6 : b < pw (e + m + sbit s)) (hf : pexp e m b ≠ pw e - 1) (hz : decv e m b = 0) :
    b = 0 ∨ (s = true ∧ b = pw (e + m)) := by
  rcases finite_cases e m b s h1 h3 h5 h6 hf with hb | ⟨rfl, p, rfl, p0, p1⟩
  · rw [decv_low e m b h1 (by omega) h3 h4 h5 hb] at hz
    exact Or.inl (dq_pos e m b h1 h2 h3 h4 h5 hb hz)
  · rw [decv_high e m p h1 (by omega) h3 h4 p0 p1] at hz
    have := dq_pos e m p h1 h2 h3 h4 p0 p1 (by omega)
    exact Or.inr ⟨rfl, by omega⟩

def dist (a b : Int) : Int := if a < b then b - a else a - b
theorem Q_near (e m x p : Int) (h1 : 2 ≤ e) (h2 : e ≤ 4) (h3 : 1 ≤ m) (h4 : m ≤ 10) (h5 : 0 ≤ x) (h6 : x < 536870912) (hp : 0 ≤ p) (hm : p ≤ most e m) : dist (Q e m x) x ≤ dist (dq e m p) x := by
  obtain ⟨c0, c1⟩ := encm_in e m x h1 (by omega) h3 h4 h5 h6
  have a := encm_near e m x p h1 (by omega) h3 h4 h5 h6 hp hm
  have b := encm_near' e m x p h1 (by omega) h3 h4 h5 h6 hp hm
  rw [dq_exact e m _ h1 h2 h3 h4 c0 c1, dq_exact e m p h1 h2 h3 h4 hp hm] at a b
  unfold dist Q
  split <;> split <;> omega

theorem nearest (e m x b : Int) (s : Bool) (h1 : 2 ≤ e) (h2 : e ≤ 4) (h3 : 1 ≤ m) (h4 : m ≤ 10) (h5 : 0 ≤ b) (h6 : b < pw (e + m + sbit s)) (hf : pexp e m b ≠ pw e - 1) (hx : -536870911 ≤ x) (hx2 : x ≤ 536870911) :
    dist (qv e m s x) x ≤ dist (decv e m b) x := by
  have hs := sat_id x hx hx2
  have mb := most_bd e m h1 h3
  rw [qv_eq e m s x h1 (by omega) h3 h4, hs]
  by_cases h0 : 0 ≤ x
  · rw [if_pos h0]
    rcases finite_cases e m b s h1 h3 h5 h6 hf with hb | ⟨rfl, p, rfl, p0, p1⟩
    · rw [decv_low e m b h1 (by omega) h3 h4 h5 hb]
      exact Q_near e m x b h1 h2 h3 h4 h0 (by omega) h5 hb
    · rw [decv_high e m p h1 (by omega) h3 h4 p0 p1]
      have a := Q_near e m x 0 h1 h2 h3 h4 h0 (by omega) (by omega) (by omega)
      have c := dq_bd e m p h1 (by omega) h4 p0
      rw [dq_zero] at a
      unfold dist at *
      generalize Q e m x = q at *
      generalize dq e m p = d at *
      revert a; split <;> split <;> split <;> omega
  · rw [if_neg h0]
    cases s with
    | false =>
      rcases finite_cases e m b false h1 h3 h5 h6 hf with hb | ⟨h, _⟩
      · rw [decv_low e m b h1 (by omega) h3 h4 h5 hb]
        have c := dq_bd e m b h1 (by omega) h4 h5
        simp only [Bool.false_eq_true, if_false]
        unfold dist; split <;> split <;> omega
      · cases h
    | true =>
      simp only [if_true]
      rcases finite_cases e m b true h1 h3 h5 h6 hf with hb | ⟨_, p, rfl, p0, p1⟩
      · rw [decv_low e m b h1 (by omega) h3 h4 h5 hb]
        have a := Q_near e m (-x) 0 h1 h2 h3 h4 (by omega) (by omega) (by omega) (by omega)
        have c := dq_bd e m b h1 (by omega) h4 h5
        rw [dq_zero] at a
        unfold dist at *
        generalize Q e m (-x) = q at *
        generalize dq e m b = d at *
        revert a; split <;> split <;> split <;> split <;> omega
      · rw [decv_high e m p h1 (by omega) h3 h4 p0 p1]
        have a := Q_near e m (-x) p h1 h2 h3 h4 (by omega) (by omega) p0 p1
        unfold dist at *
        generalize Q e m (-x) = q at *
        generalize dq e m p = d at *
        revert a; split <;> split <;> split <;> split <;> omega

end Go.Proofs.Ytfakmeimideoaaa
