/- Rounding to Half twice; the reference's way to the nearest pattern. No program is named here. -/
import Derived.Test.YtfakmeimideoaaaMMath3
namespace Go.Proofs.Ytfakmeimideoaaa
open Go.RowKit

/-! ### Half -/
theorem half_exact (x : Int) (h5 : 0 ≤ x) (h6 : x < 536870912) : V 5 10 (encm 5 10 x) % 256 = 0 := by
  obtain ⟨f0, f1, f2, f3⟩ := encm_eq 5 10 x (by omega) (by omega) (by omega) (by omega) h5 h6
  have F := flo_spec 5 10 x (by omega) (by omega) (by omega) (by omega) h5 h6
  have bk := exq_bd 5 x (by omega) (by omega) h5 h6
  have eb : biasv 5 = 15 := rfl
  have em : most 5 10 = 31743 := rfl
  have p10 : pw 10 = 1024 := rfl
  have q1 := F.q1
  have hm : flo 5 10 x < most 5 10 := by
    rw [em]; unfold flo; rw [p10] at *; omega
  have eU : 24 - biasv 5 - 10 + exq 5 x = exq 5 x - 1 := by rw [eb]; omega
  have v := F.v
  have v1 := F.v1
  have lo := F.lo
  have hi := F.hi
  rw [eU] at v v1
  by_cases hk : 9 ≤ exq 5 x
  · have : pw (exq 5 x - 1) = 256 * pw (exq 5 x - 9) := by
      rw [show exq 5 x - 1 = 8 + (exq 5 x - 9) by omega, pw_add _ _ (by omega) (by omega)]; rfl
    rw [this, ← Int.mul_assoc, Int.mul_comm _ 256, Int.mul_assoc] at v v1
    by_cases hu : upB 5 10 x
    · rw [f2 hm hu]; omega
    · rw [f3 hm hu]; omega
  · have h9 : (256 : Int) = pw (exq 5 x - 1) * pw (9 - exq 5 x) := by
      rw [← pw_add _ _ (by omega) (by omega), show exq 5 x - 1 + (9 - exq 5 x) = 8 by omega]; rfl
    have hx : 256 * x = pw (9 - exq 5 x) * x * pw (exq 5 x - 1) := by
      rw [h9]; grind
    have e2 : V 5 10 (flo 5 10 x + 1) = V 5 10 (flo 5 10 x) + pw (exq 5 x - 1) := by rw [v1, v, Int.add_mul]; omega
    have hB : (256 * x - V 5 10 (flo 5 10 x)) % pw (exq 5 x - 1) = 0 := by
      rw [v, hx, ← Int.sub_mul]; exact Int.mul_emod_left _ _
    rw [Int.emod_eq_of_lt (by omega) (by omega)] at hB
    have hu : ¬ upB 5 10 x := by unfold upB; have := pw_pos (exq 5 x - 1); omega
    rw [f3 hm hu]; omega

theorem Q_half_idem (x : Int) (h5 : 0 ≤ x) (h6 : x < 536870912) : Q 5 10 (Q 5 10 x) = Q 5 10 x := by
  have b := Q_bd 5 10 x (by omega) (by omega) (by omega) (by omega) h5 h6
  obtain ⟨c0, c1⟩ := encm_in 5 10 x (by omega) (by omega) (by omega) (by omega) h5 h6
  have he := half_exact x h5 h6
  have eb : biasv 5 = 15 := rfl
  have vn := V_nonneg 5 10 (encm 5 10 x) (by rw [eb]; omega) c0
  by_cases hb : V 5 10 (encm 5 10 x) ≤ 256 * 536870911
  · have hq : V 5 10 (encm 5 10 x) = 256 * Q 5 10 x := by
      unfold Q dq; rw [sat_id _ (by omega) (by omega)]; omega
    have := encm_exact 5 10 (Q 5 10 x) (encm 5 10 x) (by omega) (by omega) (by omega) (by omega) b.1 (by omega) c0 c1 hq
    show dq 5 10 (encm 5 10 (Q 5 10 x)) = _
    rw [this]; rfl
  · have hq : Q 5 10 x = 536870911 := by
      have h := b.2
      unfold Q dq at *
      have := sat_mono 536870911 ((V 5 10 (encm 5 10 x) + 128) / 256) (by omega)
      have z : sat 536870911 = 536870911 := rfl
      omega
    have m1 := Q_mono 5 10 x 536870911 (by omega) (by omega) (by omega) (by omega) h5 (by omega) (by omega)
    have m2 := Q_bd 5 10 536870911 (by omega) (by omega) (by omega) (by omega) (by omega) (by omega)
    rw [hq]; omega

theorem qv_half_idem (x : Int) : qv 5 10 true (qv 5 10 true x) = qv 5 10 true x := by
  have bs := sat_bd x
  have bn := sat_neg_iff x
  have z : Q 5 10 0 = 0 := by
    have : encm 5 10 0 = 0 := by decide +kernel
    unfold Q; rw [this, dq_zero]
  rw [qv_eq 5 10 true x (by omega) (by omega) (by omega) (by omega)]
  by_cases hx : 0 ≤ x
  · rw [if_pos hx]
    have b := Q_bd 5 10 (sat x) (by omega) (by omega) (by omega) (by omega) (by omega) (by omega)
    rw [qv_eq 5 10 true _ (by omega) (by omega) (by omega) (by omega), if_pos b.1, sat_id _ (by omega) (by omega), Q_half_idem _ (by omega) (by omega)]
  · rw [if_neg hx]; simp only [if_true]
    have b := Q_bd 5 10 (-sat x) (by omega) (by omega) (by omega) (by omega) (by omega) (by omega)
    rw [qv_eq 5 10 true _ (by omega) (by omega) (by omega) (by omega)]; simp only [if_true]
    by_cases hz : Q 5 10 (-sat x) = 0
    · rw [hz]; simpa [sat] using z
    · rw [if_neg (by omega), sat_neg, sat_id _ (by omega) (by omega), Int.neg_neg, Q_half_idem _ (by omega) (by omega)]

/-! ### the reference's Decode -/
def rdm (e m b : Int) : Int := if pexp e m b = pw e - 1 then (if pman m b = 0 then 536870911 else 0) else (scal e m b + 128) / 256
theorem scal_bd (e m b : Int) (h1 : 2 ≤ e) (h2 : e ≤ 5) (h3 : 1 ≤ m) (h4 : m ≤ 10) : 0 ≤ scal e m b ∧ scal e m b ≤ 2251799813685248 := by
  obtain ⟨a0, a1⟩ := pexp_bd e m b
  obtain ⟨b0, b1⟩ := pman_bd m b
  exact fld_bd e m _ _ h1 h2 h3 h4 a0 a1 b0 b1
theorem rdm_eq (e m b : Int) (h1 : 2 ≤ e) (h2 : e ≤ 5) (h3 : 1 ≤ m) (h4 : m ≤ 10) : decm e m (pexp e m b) (pman m b) = if 536870911 < rdm e m b then 536870911 else rdm e m b := by
  obtain ⟨a0, a1⟩ := pexp_bd e m b
  obtain ⟨b0, b1⟩ := pman_bd m b
  have sb := scal_bd e m b h1 h2 h3 h4
  unfold decm rdm
  by_cases hs : pexp e m b = pw e - 1
  · rw [if_pos hs, if_pos hs]; split <;> rfl
  · rw [if_neg hs, if_neg hs, decu_eq e m _ _ h1 h2 h3 h4 a0 a1 b0 b1]
    show sat ((scal e m b + 128) / 256) = _
    unfold sat; rw [if_neg (by omega)]

/-! ### the reference's Encode: bits from the highest one on -/
def pmx (e m x : Int) : Int := if most e m ≤ flo e m x then most e m else flo e m x
theorem pmx_bd (e m x : Int) (h1 : 2 ≤ e) (h2 : e ≤ 5) (h3 : 1 ≤ m) (h4 : m ≤ 10) (h5 : 0 ≤ x) (h6 : x < 536870912) : 0 ≤ pmx e m x ∧ pmx e m x ≤ most e m := by
  have := (encm_eq e m x h1 h2 h3 h4 h5 h6).1
  have := most_bd e m h1 h3
  unfold pmx; split <;> omega
theorem pmx_iff (e m x q : Int) (h1 : 2 ≤ e) (h2 : e ≤ 5) (h3 : 1 ≤ m) (h4 : m ≤ 10) (h5 : 0 ≤ x) (h6 : x < 536870912) (hq : 0 ≤ q) : (q ≤ most e m ∧ scal e m q ≤ 256 * x ↔ q ≤ pmx e m x) := by
  have mb := most_bd e m h1 h3
  have vs := V_split e m x q h1 h2 h3 h4 h5 h6 hq
  by_cases hm : q ≤ most e m
  · rw [scal_V e m q hq (by omega), ← vs]; unfold pmx; split <;> omega
  · have := pmx_bd e m x h1 h2 h3 h4 h5 h6; omega
theorem pmx_end (e m x : Int) (h1 : 2 ≤ e) (h2 : e ≤ 5) (h3 : 1 ≤ m) (h4 : m ≤ 10) (h5 : 0 ≤ x) (h6 : x < 536870912) :
    (¬ pmx e m x < most e m → encm e m x = pmx e m x) ∧
    (pmx e m x < most e m → scal e m (pmx e m x) ≤ 256 * x ∧ 256 * x < scal e m (pmx e m x + 1) ∧
      encm e m x = if scal e m (pmx e m x + 1) - 256 * x < 256 * x - scal e m (pmx e m x) ∨ (scal e m (pmx e m x + 1) - 256 * x = 256 * x - scal e m (pmx e m x) ∧ pmx e m x % 2 = 1) then pmx e m x + 1 else pmx e m x) := by
  obtain ⟨f0, f1, f2, f3⟩ := encm_eq e m x h1 h2 h3 h4 h5 h6
  have F := flo_spec e m x h1 h2 h3 h4 h5 h6
  have mb := most_bd e m h1 h3
  have pb := pmx_bd e m x h1 h2 h3 h4 h5 h6
  constructor
  · intro hn
    have h : most e m ≤ flo e m x := by unfold pmx at hn; split at hn <;> omega
    rw [f1 h]; unfold pmx; rw [if_pos h]
  · intro hl
    have h : ¬ most e m ≤ flo e m x := by
      intro hc; unfold pmx at hl; rw [if_pos hc] at hl; omega
    have hp : pmx e m x = flo e m x := by unfold pmx; rw [if_neg h]
    rw [hp, scal_V e m _ f0 (by omega), scal_V e m _ (by omega) (by omega)]
    refine ⟨F.lo, F.hi, ?_⟩
    by_cases hu : upB e m x
    · rw [f2 (by omega) hu]; unfold upB at hu; rw [if_pos hu]
    · rw [f3 (by omega) hu]; unfold upB at hu; rw [if_neg hu]

/-- The state of the loop: all bits above i are known. -/
def Lp (e m x i p : Int) : Prop := -1 ≤ i ∧ i ≤ e + m - 1 ∧ 0 ≤ p ∧ p ≤ pmx e m x ∧ pmx e m x < p + pw (i + 1)
theorem Lp.start (e m x : Int) (h1 : 2 ≤ e) (h2 : e ≤ 5) (h3 : 1 ≤ m) (h4 : m ≤ 10) (h5 : 0 ≤ x) (h6 : x < 536870912) : Lp e m x (e + m - 1) 0 := by
  have pb := pmx_bd e m x h1 h2 h3 h4 h5 h6
  have mb := most_bd e m h1 h3
  refine ⟨by omega, by omega, by omega, pb.1, ?_⟩
  rw [show e + m - 1 + 1 = e + m by omega, pw_em e m h1 h3]; omega
theorem Lp.yes {e m x i p : Int} (h : Lp e m x i p) (hi : 0 ≤ i) (hq : p + pw i ≤ pmx e m x) : Lp e m x (i - 1) (p + pw i) := by
  obtain ⟨a, b, c, d, f⟩ := h
  have := pw_pos i
  rw [pw_succ i hi] at f
  exact ⟨by omega, by omega, by omega, hq, by rw [show i - 1 + 1 = i by omega]; omega⟩
theorem Lp.no {e m x i p : Int} (h : Lp e m x i p) (hi : 0 ≤ i) (hq : ¬ p + pw i ≤ pmx e m x) : Lp e m x (i - 1) p := by
  obtain ⟨a, b, c, d, f⟩ := h
  exact ⟨by omega, by omega, c, d, by rw [show i - 1 + 1 = i by omega]; omega⟩
theorem Lp.done {e m x p : Int} (h : Lp e m x (-1) p) : p = pmx e m x := by
  obtain ⟨a, b, c, d, f⟩ := h
  have : pw (-1 + 1) = 1 := rfl
  omega

end Go.Proofs.Ytfakmeimideoaaa
