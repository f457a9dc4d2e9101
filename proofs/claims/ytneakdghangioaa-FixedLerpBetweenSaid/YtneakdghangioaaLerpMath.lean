/- Plain numbers: the number between two ends that Lerp returns. No program is named here. -/
import Derived.Test.YtneakdghangioaaMath
namespace Go.Proofs.Ytneakdghangioaa
open Go.RowKit

/-- How far t goes from a to b. -/
theorem step_bd (D T : Int) (h0 : 0 ≤ D) (t0 : 0 ≤ T) (t1 : T ≤ 65536) : 0 ≤ rdv (D * T) 65536 ∧ rdv (D * T) 65536 ≤ D := by
  have p := Int.mul_nonneg h0 t0
  have q := Int.mul_le_mul_of_nonneg_left t1 h0
  exact ⟨(rdv_near _ _ (by omega) p).2.2, rdv_le _ _ _ (by omega) h0 (by omega)⟩
theorem step_bd' (D T : Int) (h0 : D ≤ 0) (t0 : 0 ≤ T) (t1 : T ≤ 65536) : D ≤ rdv (D * T) 65536 ∧ rdv (D * T) 65536 ≤ 0 := by
  have h := step_bd (-D) T (by omega) t0 t1
  rw [Int.neg_mul, rdv_neg _ _ (by omega)] at h
  omega
theorem lerp_eq (a b t : Int) : lerpv a b t = sat a + rdv (subv b a * clampv t 0 65536) 65536 := by
  have ba := sat_bd a
  have bb := sat_bd b
  obtain ⟨t0, t1⟩ := clamp_one t
  have hD : subv b a = sat (sat b - sat a) := rfl
  have hm : mulv (subv b a) (clampv t 0 65536) = rdv (subv b a * clampv t 0 65536) 65536 := by
    have sd : sat (subv b a) = subv b a := sat_sat _
    have st : sat (clampv t 0 65536) = clampv t 0 65536 := sat_id _ (by omega) (by omega)
    have bd := subv_bd b a
    have pb := sat_prod (subv b a) (clampv t 0 65536)
    unfold mulv
    rw [sd, st] at pb ⊢
    rw [rda_in (subv b a * clampv t 0 65536) 65536 (by omega) (by omega) (by omega) (by omega)]
    by_cases h : 0 ≤ subv b a
    · have s := step_bd _ _ h t0 t1; exact sat_id _ (by omega) (by omega)
    · have s := step_bd' (subv b a) _ (by omega) t0 t1; exact sat_id _ (by omega) (by omega)
  unfold lerpv addv
  rw [hm]
  have bd := subv_bd b a
  by_cases h : sat a ≤ sat b
  · have d0 : 0 ≤ subv b a ∧ subv b a ≤ sat b - sat a := by
      rw [hD]; unfold sat at *; grind
    have s := step_bd _ _ d0.1 t0 t1
    rw [sat_id (rdv _ _) (by omega) (by omega)]
    exact sat_id _ (by omega) (by omega)
  · have d0 : subv b a ≤ 0 ∧ sat b - sat a ≤ subv b a := by
      rw [hD]; unfold sat at *; grind
    have s := step_bd' _ _ d0.1 t0 t1
    rw [sat_id (rdv _ _) (by omega) (by omega)]
    exact sat_id _ (by omega) (by omega)
theorem sub_up (a b : Int) (h : sat a ≤ sat b) : 0 ≤ subv b a ∧ subv b a ≤ sat b - sat a := by
  have ba := sat_bd a
  have bb := sat_bd b
  have hD : subv b a = sat (sat b - sat a) := rfl
  rw [hD]; generalize sat a = p at *; generalize sat b = q at *; unfold sat; grind
theorem sub_down (a b : Int) (h : sat b ≤ sat a) : subv b a ≤ 0 ∧ sat b - sat a ≤ subv b a := by
  have := sub_up b a h
  rw [subv_anti]; omega
theorem lerp_up (a b t : Int) (h : sat a ≤ sat b) : sat a ≤ lerpv a b t ∧ lerpv a b t ≤ sat b := by
  obtain ⟨t0, t1⟩ := clamp_one t
  obtain ⟨d0, d1⟩ := sub_up a b h
  have s := step_bd _ _ d0 t0 t1
  rw [lerp_eq]; omega
theorem lerp_down (a b t : Int) (h : sat b ≤ sat a) : sat b ≤ lerpv a b t ∧ lerpv a b t ≤ sat a := by
  obtain ⟨t0, t1⟩ := clamp_one t
  obtain ⟨d0, d1⟩ := sub_down a b h
  have s := step_bd' _ _ d0 t0 t1
  rw [lerp_eq]; omega
theorem clamp_mono (t u : Int) (h : t ≤ u) : clampv t 0 65536 ≤ clampv u 0 65536 := by unfold clampv; grind
theorem lerp_mono (a b t u : Int) (h : sat a ≤ sat b) (htu : t ≤ u) : lerpv a b t ≤ lerpv a b u := by
  obtain ⟨t0, t1⟩ := clamp_one t
  obtain ⟨d0, d1⟩ := sub_up a b h
  have c := clamp_mono t u htu
  have := rdv_mono (subv b a * clampv t 0 65536) (subv b a * clampv u 0 65536) 65536 (by omega) (Int.mul_nonneg d0 t0) (Int.mul_le_mul_of_nonneg_left c d0)
  rw [lerp_eq, lerp_eq]; omega
theorem lerp_anti (a b t u : Int) (h : sat b ≤ sat a) (htu : t ≤ u) : lerpv a b u ≤ lerpv a b t := by
  obtain ⟨t0, t1⟩ := clamp_one t
  obtain ⟨d0, d1⟩ := sub_down a b h
  have c := clamp_mono t u htu
  have := rdv_mono (-subv b a * clampv t 0 65536) (-subv b a * clampv u 0 65536) 65536 (by omega) (Int.mul_nonneg (by omega) t0) (Int.mul_le_mul_of_nonneg_left c (by omega))
  rw [Int.neg_mul, Int.neg_mul, rdv_neg _ _ (by omega), rdv_neg _ _ (by omega)] at this
  rw [lerp_eq, lerp_eq]; omega
theorem lerp_low (a b t : Int) (h : t ≤ 0) : lerpv a b t = sat a := by
  have e : clampv t 0 65536 = 0 := by unfold clampv; grind
  rw [lerp_eq, e, Int.mul_zero, rdv_zero _ (by omega), Int.add_zero]
theorem lerp_high (a b t : Int) (h : 65536 ≤ t) : lerpv a b t = lerpv a b 65536 := by
  have e : clampv t 0 65536 = 65536 := by unfold clampv; grind
  have e2 : clampv 65536 0 65536 = 65536 := by decide
  rw [lerp_eq, lerp_eq, e, e2]
theorem lerp_same (a t : Int) : lerpv a a t = sat a := by
  rw [lerp_eq, subv_self, Int.zero_mul, rdv_zero _ (by omega), Int.add_zero]


end Go.Proofs.Ytneakdghangioaa
