/- Viewports, in plain numbers. -/
import Derived.Test.YtfpnbgmmgnpggaaMath
namespace Go.Proofs.Ytfpnbgmmgnpggaa
set_option linter.unusedSimpArgs false

def side (low size : Int) : Bool := decide (0 ≤ low) && (decide (1 ≤ size) && (decide (size ≤ 64) && decide (low ≤ 64 - size)))

def vvalid (x y ww hh mn mx : Int) : Bool := side x ww && (side y hh && (decide (0 ≤ mn) && (decide (mn ≤ mx) && decide (mx ≤ 65536))))

def btw (low size x : Int) : Bool := decide (0 < size) && (decide (low ≤ x) && decide (x - low < size))

def ovw (n w : Int) : Int := divv n (max w 256)

def coord (low size n w : Int) : Int := clampv low 0 64 * 256 + rda ((clampv (ovw n w) (-65536) 65536 + 65536) * clampv size 0 64 * 256) 131072

def depthv (mn mx z w : Int) : Int := addv mn (mulv (clampv (ovw z w) 0 65536) (sat (mx - mn)))

theorem clamp_in (x lo hi : Int) (h : lo ≤ hi) : lo ≤ clampv x lo hi ∧ clampv x lo hi ≤ hi := by unfold clampv; grind

theorem coord_prod (d s : Int) (h1 : -65536 ≤ d ∧ d ≤ 65536) (h2 : 0 ≤ s ∧ s ≤ 64) : 0 ≤ (d + 65536) * s ∧ (d + 65536) * s ≤ 8388608 := by
  refine ⟨Int.mul_nonneg (by omega) h2.1, ?_⟩
  have h3 : (d + 65536) * s ≤ 131072 * 64 := Int.mul_le_mul (by omega) h2.2 h2.1 (by omega)
  omega

theorem coord_rdv (low size n w : Int) : coord low size n w = clampv low 0 64 * 256 + rdv ((clampv (ovw n w) (-65536) 65536 + 65536) * clampv size 0 64 * 256) 131072 := by
  have h := coord_prod _ _ (clamp_in (ovw n w) (-65536) 65536 (by omega)) (clamp_in size 0 64 (by omega))
  unfold coord
  rw [rda_in _ _ (by omega) (by omega) (by omega) (by omega)]

theorem coord_bd (low size n w : Int) : clampv low 0 64 * 256 ≤ coord low size n w ∧ coord low size n w ≤ (clampv low 0 64 + clampv size 0 64) * 256 := by
  have h1 := clamp_in (ovw n w) (-65536) 65536 (by omega)
  have h2 := clamp_in size 0 64 (by omega)
  have h := coord_prod _ _ h1 h2
  rw [coord_rdv]
  have h3 := rdv_mono 0 ((clampv (ovw n w) (-65536) 65536 + 65536) * clampv size 0 64 * 256) 131072 (by omega) (by omega) (by omega)
  have h4 : (clampv (ovw n w) (-65536) 65536 + 65536) * clampv size 0 64 ≤ 131072 * clampv size 0 64 := Int.mul_le_mul_of_nonneg_right (by omega) h2.1
  have h5 := rdv_mono ((clampv (ovw n w) (-65536) 65536 + 65536) * clampv size 0 64 * 256) ((clampv size 0 64 * 256) * 131072) 131072 (by omega) (by omega) (by omega)
  rw [rdv_zero _ (by omega)] at h3
  rw [rdv_mul _ _ (by omega) (by omega)] at h5
  omega

theorem rdv_mono_any (n m d : Int) (h : 1 ≤ d) (hnm : n ≤ m) : rdv n d ≤ rdv m d := by
  rcases Int.lt_or_le n 0 with h1 | h1
  · rcases Int.lt_or_le m 0 with h2 | h2
    · have h3 := rdv_mono (-m) (-n) d h (by omega) (by omega)
      rw [rdv_neg _ _ h, rdv_neg _ _ h] at h3
      omega
    · have h3 := (rdv_near' n d h (by omega)).2.2
      have h4 := (rdv_near m d h h2).2.2
      omega
  · exact rdv_mono n m d h h1 hnm

theorem divv_pos (a b : Int) (h1 : 1 ≤ b) (h2 : b ≤ 536870911) : divv a b = sat (rdv (sat a * 65536) b) := by
  have hs := sat_id b (by omega) h2
  have ha := sat_bd a
  unfold divv
  rw [hs, if_neg (by omega)]
  first
    | rw [if_neg (by omega), rda_in _ _ (by omega) (by omega) (by omega) (by omega)]
    | rw [rda_in _ _ (by omega) (by omega) (by omega) (by omega)]

theorem ovw_mono (n m w : Int) (h1 : w ≤ 536870911) (h : n ≤ m) : ovw n w ≤ ovw m w := by
  unfold ovw
  rw [divv_pos _ _ (by omega) (by omega), divv_pos _ _ (by omega) (by omega)]
  have h2 := sat_mono n m h
  exact sat_mono _ _ (rdv_mono_any _ _ _ (by omega) (by omega))

theorem coord_mono (low size n m w : Int) (h1 : w ≤ 536870911) (h : n ≤ m) : coord low size n w ≤ coord low size m w := by
  have h2 := ovw_mono n m w h1 h
  have h3 : clampv (ovw n w) (-65536) 65536 ≤ clampv (ovw m w) (-65536) 65536 := by unfold clampv; grind
  have h4 := clamp_in size 0 64 (by omega)
  have h5 := coord_prod _ _ (clamp_in (ovw n w) (-65536) 65536 (by omega)) h4
  have h6 : (clampv (ovw n w) (-65536) 65536 + 65536) * clampv size 0 64 ≤ (clampv (ovw m w) (-65536) 65536 + 65536) * clampv size 0 64 := Int.mul_le_mul_of_nonneg_right (by omega) h4.1
  rw [coord_rdv, coord_rdv]
  have h7 := rdv_mono ((clampv (ovw n w) (-65536) 65536 + 65536) * clampv size 0 64 * 256) ((clampv (ovw m w) (-65536) 65536 + 65536) * clampv size 0 64 * 256) 131072 (by omega) (by omega) (by omega)
  omega

theorem ovw_self (w : Int) (h1 : 256 ≤ w) (h2 : w ≤ 536870911) : ovw w w = 65536 ∧ ovw (-w) w = -65536 ∧ ovw 0 w = 0 := by
  have hm : max w 256 = w := by omega
  have hs := sat_id w (by omega) h2
  unfold ovw
  rw [hm, divv_pos _ _ (by omega) h2, divv_pos _ _ (by omega) h2, divv_pos _ _ (by omega) h2, sat_neg, hs, show w * 65536 = 65536 * w by omega, show -w * 65536 = -65536 * w by omega, rdv_mul_any _ _ (by omega), rdv_mul_any _ _ (by omega), show sat 0 * 65536 = 0 by decide, rdv_zero _ (by omega)]
  decide

theorem coord_ends (low size w : Int) (hl : 0 ≤ low ∧ low ≤ 64) (hs : 0 ≤ size ∧ size ≤ 64) (h1 : 256 ≤ w) (h2 : w ≤ 536870911) :
    coord low size w w = (low + size) * 256 ∧ coord low size (-w) w = low * 256 ∧ coord low size 0 w = low * 256 + size * 128 := by
  obtain ⟨e1, e2, e3⟩ := ovw_self w h1 h2
  have c1 : clampv low 0 64 = low := by unfold clampv; grind
  have c2 : clampv size 0 64 = size := by unfold clampv; grind
  rw [coord_rdv, coord_rdv, coord_rdv, e1, e2, e3, c1, c2, show clampv 65536 (-65536) 65536 = 65536 by decide, show clampv (-65536) (-65536) 65536 = -65536 by decide, show clampv 0 (-65536) 65536 = 0 by decide,
    show (65536 + 65536) * size * 256 = (size * 256) * 131072 by omega, show (-65536 + 65536) * size * 256 = 0 by omega, show (0 + 65536) * size * 256 = (size * 128) * 131072 by omega, rdv_mul _ _ (by omega) (by omega), rdv_mul _ _ (by omega) (by omega), rdv_zero _ (by omega)]
  omega

theorem vvalid_yes {x y ww hh mn mx : Int} (h : vvalid x y ww hh mn mx = true) : (0 ≤ x ∧ 1 ≤ ww ∧ ww ≤ 64 ∧ x ≤ 64 - ww) ∧ (0 ≤ y ∧ 1 ≤ hh ∧ hh ≤ 64 ∧ y ≤ 64 - hh) ∧ 0 ≤ mn ∧ mn ≤ mx ∧ mx ≤ 65536 := by
  unfold vvalid side at h
  simpa using h

theorem depthv_bd (mn mx z w : Int) (h0 : 0 ≤ mn) (h1 : mn ≤ mx) (h2 : mx ≤ 65536) : mn ≤ depthv mn mx z w ∧ depthv mn mx z w ≤ mx := by
  have hd := clamp_in (ovw z w) 0 65536 (by omega)
  unfold depthv
  generalize clampv (ovw z w) 0 65536 = d at hd ⊢
  have hs : sat (mx - mn) = mx - mn := sat_id _ (by omega) (by omega)
  rw [hs]
  have hp : 0 ≤ d * (mx - mn) ∧ d * (mx - mn) ≤ 65536 * (mx - mn) := ⟨Int.mul_nonneg hd.1 (by omega), Int.mul_le_mul_of_nonneg_right hd.2 (by omega)⟩
  have hm : 0 ≤ mulv d (mx - mn) ∧ mulv d (mx - mn) ≤ mx - mn := by
    unfold mulv
    rw [sat_id d (by omega) (by omega), hs, rda_in _ _ (by omega) (by omega) (by omega) (by omega)]
    have h3 := rdv_mono 0 (d * (mx - mn)) 65536 (by omega) (by omega) hp.1
    have h4 := rdv_mono (d * (mx - mn)) ((mx - mn) * 65536) 65536 (by omega) hp.1 (by omega)
    rw [rdv_zero _ (by omega)] at h3
    rw [rdv_mul _ _ (by omega) (by omega)] at h4
    rw [sat_id _ (by omega) (by omega)]
    exact ⟨h3, h4⟩
  unfold addv
  rw [sat_id mn (by omega) (by omega), sat_id (mulv d (mx - mn)) (by omega) (by omega), sat_id _ (by omega) (by omega)]
  omega

theorem invw_bd (w : Int) : 0 ≤ ovw 65536 w ∧ ovw 65536 w ≤ 16777216 := by
  unfold ovw
  rcases Int.lt_or_le 536870911 (max w 256) with h | h
  · have hs : sat (max w 256) = 536870911 := by unfold sat; grind
    have : divv 65536 (max w 256) = divv 65536 536870911 := by unfold divv; rw [hs, show sat 536870911 = 536870911 by decide]
    rw [this]
    decide
  · rw [divv_pos _ _ (by omega) h, show sat 65536 * 65536 = 4294967296 by decide]
    have h1 := rdv_mono 0 4294967296 (max w 256) (by omega) (by omega) (by omega)
    have h2 := rdv_le 4294967296 (max w 256) 16777216 (by omega) (by omega) (by
      have : 16777216 * 256 ≤ 16777216 * max w 256 := Int.mul_le_mul_of_nonneg_left (by omega) (by omega)
      omega)
    rw [rdv_zero _ (by omega)] at h1
    rw [sat_id _ (by omega) (by omega)]
    exact ⟨h1, h2⟩

end Go.Proofs.Ytfpnbgmmgnpggaa
