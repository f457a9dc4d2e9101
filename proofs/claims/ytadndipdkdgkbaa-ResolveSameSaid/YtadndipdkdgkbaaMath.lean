/- Plain numbers that the calls of package fixed and of its reference return, and what linear arithmetic says of them. No program is named here. -/
import Derived.WalkKit
import Derived.DataShut
namespace Go.Proofs.Ytadndipdkdgkbaa
set_option linter.unusedSimpArgs false
open Go.RowKit

/-! ### limits -/
def clampv (x lo hi : Int) : Int := if hi < lo ∨ x < lo then lo else if hi < x then hi else x
def sat (x : Int) : Int := if x < -536870911 then -536870911 else if 536870911 < x then 536870911 else x

theorem sat_bd (x : Int) : -536870911 ≤ sat x ∧ sat x ≤ 536870911 := by unfold sat; grind
theorem sat_id (x : Int) (h1 : -536870911 ≤ x) (h2 : x ≤ 536870911) : sat x = x := by unfold sat; grind
theorem sat_neg (x : Int) : sat (-x) = -sat x := by unfold sat; grind
theorem sat_sat (x : Int) : sat (sat x) = sat x := by have := sat_bd x; exact sat_id _ (by omega) (by omega)
theorem sat_low (x : Int) (h : x < -536870911) : sat x = -536870911 := by unfold sat; rw [if_pos h]
theorem sat_mono (x y : Int) (h : x ≤ y) : sat x ≤ sat y := by unfold sat; grind
theorem clamp_sat (x : Int) : clampv x (-536870911) 536870911 = sat x := by unfold clampv sat; grind
theorem clamp_one (t : Int) : 0 ≤ clampv t 0 65536 ∧ clampv t 0 65536 ≤ 65536 := by unfold clampv; grind

/-! ### the rounded quotient -/
/-- n/d, halves away from zero (1 ≤ d). -/
def rdv (n d : Int) : Int := if 0 ≤ n then (2 * n + d) / (2 * d) else -((2 * -n + d) / (2 * d))
/-- The same with its ranges. -/
def rda (n d : Int) : Int := if 1 ≤ d ∧ d ≤ 4611686018427387904 ∧ -4611686018427387904 ≤ n ∧ n ≤ 4611686018427387904 then rdv n d else 0

theorem rdv_neg (n d : Int) (h : 1 ≤ d) : rdv (-n) d = -rdv n d := by
  unfold rdv
  by_cases h0 : n = 0
  · subst h0
    have e : d / (2 * d) = 0 := Int.ediv_eq_zero_of_lt (by omega) (by omega)
    simp [e]
  · by_cases h1 : 0 ≤ n
    · rw [if_neg (by omega), if_pos h1, Int.neg_neg]
    · rw [if_pos (by omega), if_neg h1, Int.neg_neg]

/-- The half step: (2 n + d) / (2 d) out of quotient and rest. -/
theorem half_up (n d : Int) (h : 1 ≤ d) : (2 * n + d) / (2 * d) = if d ≤ 2 * (n % d) then n / d + 1 else n / d := by
  have e := Int.mul_ediv_add_emod n d
  have r0 := Int.emod_nonneg n (b := d) (by omega)
  have r1 := Int.emod_lt_of_pos n (b := d) (by omega)
  generalize hq : n / d = q at *
  generalize hr : n % d = r at *
  split
  · rename_i hh
    have hx : 2 * n + d = (2 * r - d) + (2 * d) * (q + 1) := by rw [← e]; grind
    rw [hx, Int.add_mul_ediv_left _ _ (by omega), Int.ediv_eq_zero_of_lt (by omega) (by omega)]; omega
  · rename_i hh
    have hx : 2 * n + d = (2 * r + d) + (2 * d) * q := by rw [← e]; grind
    rw [hx, Int.add_mul_ediv_left _ _ (by omega), Int.ediv_eq_zero_of_lt (by omega) (by omega)]; omega

/-- The same in the machine's quotient and rest, cut towards nought. -/
theorem rdv_t (n d : Int) (h : 1 ≤ d) : rdv n d = if d ≤ 2 * n.tmod d then n.tdiv d + 1 else if d ≤ -2 * n.tmod d then n.tdiv d - 1 else n.tdiv d := by
  by_cases h0 : 0 ≤ n
  · rw [Int.tmod_eq_emod_of_nonneg h0, Int.tdiv_eq_ediv_of_nonneg h0]
    have r0 := Int.emod_nonneg n (b := d) (by omega)
    unfold rdv; rw [if_pos h0, half_up _ _ h]
    split
    · rfl
    · rw [if_neg (by omega)]
  · have e1 : n.tmod d = -((-n) % d) := by
      have := Int.neg_tmod (-n) d; rw [Int.neg_neg] at this
      rw [this, Int.tmod_eq_emod_of_nonneg (by omega)]
    have e2 : n.tdiv d = -((-n) / d) := by
      have := Int.neg_tdiv (-n) d; rw [Int.neg_neg] at this
      rw [this, Int.tdiv_eq_ediv_of_nonneg (by omega)]
    have r0 := Int.emod_nonneg (-n) (b := d) (by omega)
    unfold rdv; rw [if_neg h0, half_up _ _ h, e1, e2]
    by_cases hh : d ≤ 2 * (-n % d)
    · rw [if_pos hh, if_neg (by omega), if_pos (by omega)]; omega
    · rw [if_neg hh, if_neg (by omega), if_neg (by omega)]
theorem quo_rem_bd (n d : Int) (h : 1 ≤ d) (b : Int) (h1 : -b ≤ n) (h2 : n ≤ b) : (-d < n.tmod d ∧ n.tmod d < d) ∧ (-b ≤ n.tdiv d ∧ n.tdiv d ≤ b) := by
  by_cases h0 : 0 ≤ n
  · rw [Int.tmod_eq_emod_of_nonneg h0, Int.tdiv_eq_ediv_of_nonneg h0]
    have r0 := Int.emod_nonneg n (b := d) (by omega)
    have r1 := Int.emod_lt_of_pos n (b := d) (by omega)
    have q0 : 0 ≤ n / d := Int.ediv_nonneg (by omega) (by omega)
    have q1 : n / d ≤ n := Int.ediv_le_self _ h0
    omega
  · have e1 : n.tmod d = -((-n) % d) := by
      have := Int.neg_tmod (-n) d; rw [Int.neg_neg] at this
      rw [this, Int.tmod_eq_emod_of_nonneg (by omega)]
    have e2 : n.tdiv d = -((-n) / d) := by
      have := Int.neg_tdiv (-n) d; rw [Int.neg_neg] at this
      rw [this, Int.tdiv_eq_ediv_of_nonneg (by omega)]
    have r0 := Int.emod_nonneg (-n) (b := d) (by omega)
    have r1 := Int.emod_lt_of_pos (-n) (b := d) (by omega)
    have q0 : 0 ≤ (-n) / d := Int.ediv_nonneg (by omega) (by omega)
    have q1 : (-n) / d ≤ -n := Int.ediv_le_self _ (by omega)
    rw [e1, e2]; omega

/-- Between 2 d q - d and 2 d q + d: 2 n. -/
theorem rdv_near (n d : Int) (h : 1 ≤ d) (hn : 0 ≤ n) : 2 * (rdv n d * d) ≤ 2 * n + d ∧ 2 * n < 2 * (rdv n d * d) + d ∧ 0 ≤ rdv n d := by
  unfold rdv; rw [if_pos hn]
  have e := Int.mul_ediv_add_emod (2 * n + d) (2 * d)
  have r0 := Int.emod_nonneg (2 * n + d) (b := 2 * d) (by omega)
  have r1 := Int.emod_lt_of_pos (2 * n + d) (b := 2 * d) (by omega)
  have q0 : 0 ≤ (2 * n + d) / (2 * d) := Int.ediv_nonneg (by omega) (by omega)
  generalize (2 * n + d) / (2 * d) = q at *
  have : 2 * d * q = 2 * (q * d) := by grind
  omega
theorem rdv_near' (n d : Int) (h : 1 ≤ d) (hn : n ≤ 0) : 2 * n - d ≤ 2 * (rdv n d * d) ∧ 2 * (rdv n d * d) - d < 2 * n ∧ rdv n d ≤ 0 := by
  have e := rdv_neg (-n) d h
  rw [Int.neg_neg] at e
  obtain ⟨a, b, c⟩ := rdv_near (-n) d h (by omega)
  have : rdv n d * d = -(rdv (-n) d * d) := by rw [e, Int.neg_mul]
  omega

/-- A quotient is at most q if its rounding does not reach q + 1 .. -/
theorem rdv_le (n d q : Int) (h : 1 ≤ d) (hq : 0 ≤ q) (hn : 2 * n < 2 * (q * d) + d) : rdv n d ≤ q := by
  by_cases h0 : 0 ≤ n
  · unfold rdv; rw [if_pos h0]
    have e : (q + 1) * (2 * d) = 2 * (q * d) + 2 * d := by grind
    have : (2 * n + d) / (2 * d) < q + 1 := Int.ediv_lt_of_lt_mul (by omega) (by omega)
    omega
  · have := (rdv_near' n d h (by omega)).2.2; omega
theorem rdv_ge (n d q : Int) (h : 1 ≤ d) (h0 : 0 ≤ n) (hn : 2 * (q * d) ≤ 2 * n + d) : q ≤ rdv n d := by
  unfold rdv; rw [if_pos h0]
  have e : q * (2 * d) = 2 * (q * d) := by grind
  exact Int.le_ediv_of_mul_le (by omega) (by omega)
theorem rdv_mono (n m d : Int) (h : 1 ≤ d) (h0 : 0 ≤ n) (hnm : n ≤ m) : rdv n d ≤ rdv m d := by
  unfold rdv; rw [if_pos h0, if_pos (by omega)]
  exact Int.ediv_le_ediv (by omega) (by omega)
theorem rdv_zero (d : Int) (h : 1 ≤ d) : rdv 0 d = 0 := by
  have e : d / (2 * d) = 0 := Int.ediv_eq_zero_of_lt (by omega) (by omega)
  simp [rdv, e]
/-- Multiples are exact. -/
theorem rdv_mul (q d : Int) (h : 1 ≤ d) (h0 : 0 ≤ q) : rdv (q * d) d = q := by
  have hp : 0 ≤ q * d := Int.mul_nonneg h0 (by omega)
  have a := rdv_le (q * d) d q h h0 (by omega)
  have b := rdv_ge (q * d) d q h hp (by omega)
  omega
theorem rdv_mul_any (q d : Int) (h : 1 ≤ d) : rdv (q * d) d = q := by
  by_cases h0 : 0 ≤ q
  · exact rdv_mul q d h h0
  · have := rdv_mul (-q) d h (by omega)
    rw [Int.neg_mul, rdv_neg _ _ h] at this; omega
theorem rdv_abs (n d : Int) (h : 1 ≤ d) (b : Int) (h1 : -b ≤ n) (h2 : n ≤ b) : -b ≤ rdv n d ∧ rdv n d ≤ b := by
  have key : ∀ m : Int, 0 ≤ m → m ≤ b → rdv m d ≤ b := by
    intro m hm hb
    refine rdv_le m d b h (by omega) ?_
    have : b * 1 ≤ b * d := Int.mul_le_mul_of_nonneg_left h (by omega)
    omega
  by_cases h0 : 0 ≤ n
  · have := key n h0 h2; have := (rdv_near n d h h0).2.2; omega
  · have e := rdv_neg (-n) d h
    rw [Int.neg_neg] at e
    have := key (-n) (by omega) (by omega); have := (rdv_near (-n) d h (by omega)).2.2; omega

theorem rda_in (n d : Int) (h1 : 1 ≤ d) (h2 : d ≤ 4611686018427387904) (h3 : -4611686018427387904 ≤ n) (h4 : n ≤ 4611686018427387904) : rda n d = rdv n d := by
  unfold rda; rw [if_pos ⟨h1, h2, h3, h4⟩]
theorem rda_out (n d : Int) (h : d < 1 ∨ 4611686018427387904 < d ∨ n < -4611686018427387904 ∨ 4611686018427387904 < n) : rda n d = 0 := by
  unfold rda; rw [if_neg (by omega)]
theorem rda_bd (n d : Int) : -4611686018427387904 ≤ rda n d ∧ rda n d ≤ 4611686018427387904 := by
  unfold rda
  split
  · rename_i h; exact rdv_abs n d h.1 _ h.2.2.1 h.2.2.2
  · omega
theorem rda_neg (n d : Int) : rda (-n) d = -rda n d := by
  unfold rda
  by_cases h : 1 ≤ d ∧ d ≤ 4611686018427387904 ∧ -4611686018427387904 ≤ n ∧ n ≤ 4611686018427387904
  · rw [if_pos h, if_pos (by omega), rdv_neg _ _ h.1]
  · rw [if_neg h, if_neg (by omega)]; rfl

/-! ### the arithmetic of the package -/
def addv (a b : Int) : Int := sat (sat a + sat b)
def subv (a b : Int) : Int := sat (sat a - sat b)
def mulv (a b : Int) : Int := sat (rda (sat a * sat b) 65536)
def divv (a b : Int) : Int :=
  if sat b = 0 then (if 0 < sat a then 536870911 else if sat a < 0 then -536870911 else 0)
  else if sat b < 0 then sat (rda (-(sat a * 65536)) (-sat b)) else sat (rda (sat a * 65536) (sat b))
def ratiov (n d : Int) : Int :=
  if d < 1 ∨ 4611686018427387904 < d ∨ n < 1 then 0 else if d ≤ n then 65536
  else if d < 70368744177664 then rda (n * 65536) d else if 65536 < rda n (rda d 65536) then 65536 else rda n (rda d 65536)
def lerpv (a b t : Int) : Int := addv a (mulv (subv b a) (clampv t 0 65536))
/-- The number of whole multiples of One, rounded down. -/
def mulo (x : Int) : Int := sat x / 65536
def floorv (x : Int) : Int := sat (sat x - sat x % 65536)
def fractv (x : Int) : Int := sat x % 65536
def wrapv (x : Int) : Int := (x + 2147483648) % 4294967296 - 2147483648

theorem addv_bd (a b : Int) : -536870911 ≤ addv a b ∧ addv a b ≤ 536870911 := sat_bd _
theorem subv_bd (a b : Int) : -536870911 ≤ subv a b ∧ subv a b ≤ 536870911 := sat_bd _
theorem mulv_bd (a b : Int) : -536870911 ≤ mulv a b ∧ mulv a b ≤ 536870911 := sat_bd _
theorem lerpv_bd (a b t : Int) : -536870911 ≤ lerpv a b t ∧ lerpv a b t ≤ 536870911 := addv_bd _ _
theorem divv_bd (a b : Int) : -536870911 ≤ divv a b ∧ divv a b ≤ 536870911 := by
  unfold divv
  split
  · split
    · omega
    · split <;> omega
  · split <;> exact sat_bd _
theorem prod_bd (a b M : Int) (ha : -M ≤ a ∧ a ≤ M) (hb : -M ≤ b ∧ b ≤ M) : -(M * M) ≤ a * b ∧ a * b ≤ M * M := by
  have h1 : 0 ≤ (M - a) * (M + b) := Int.mul_nonneg (by omega) (by omega)
  have h2 : 0 ≤ (M + a) * (M - b) := Int.mul_nonneg (by omega) (by omega)
  have h3 : 0 ≤ (M - a) * (M - b) := Int.mul_nonneg (by omega) (by omega)
  have h4 : 0 ≤ (M + a) * (M + b) := Int.mul_nonneg (by omega) (by omega)
  constructor <;> grind
theorem sat_prod (a b : Int) : -288230375077969921 ≤ sat a * sat b ∧ sat a * sat b ≤ 288230375077969921 := by
  have := prod_bd (sat a) (sat b) 536870911 (sat_bd a) (sat_bd b); omega

/-- Cut towards nought, of whatever sign. -/
theorem tm_if (x d : Int) : x.tmod d = if 0 ≤ x then x % d else -((-x) % d) := by
  split
  · rename_i h; exact Int.tmod_eq_emod_of_nonneg h
  · have := Int.neg_tmod (-x) d; rw [Int.neg_neg] at this
    rw [this, Int.tmod_eq_emod_of_nonneg (by omega)]
theorem td_if (x d : Int) : x.tdiv d = if 0 ≤ x then x / d else -((-x) / d) := by
  split
  · rename_i h; exact Int.tdiv_eq_ediv_of_nonneg h
  · have := Int.neg_tdiv (-x) d; rw [Int.neg_neg] at this
    rw [this, Int.tdiv_eq_ediv_of_nonneg (by omega)]
theorem sgn_bd (x y : Int) : -1 ≤ (if x < y then -1 else if y < x then 1 else (0 : Int)) ∧ (if x < y then -1 else if y < x then 1 else (0 : Int)) ≤ 1 := by
  split
  · omega
  · split <;> omega
def sgn (x y : Int) : Int := if x < y then -1 else if y < x then 1 else 0
theorem sgn_in (x y : Int) : -1 ≤ sgn x y ∧ sgn x y ≤ 1 := sgn_bd x y
theorem wrap32_is (x : Int) : wrap32 x = wrapv x := by unfold wrap32 wrapv; rfl
theorem mulo_bd (x : Int) : -8192 ≤ mulo x ∧ mulo x ≤ 8191 := by
  have := sat_bd x; unfold mulo; omega
theorem floorv_mulo (x : Int) : sat (mulo x * 65536) = floorv x := by
  unfold floorv mulo; congr 1; omega
theorem fractv_mulo (x : Int) : sat x - mulo x * 65536 = fractv x := by
  unfold fractv mulo; omega
theorem fractv_bd (x : Int) : 0 ≤ fractv x ∧ fractv x ≤ 65535 := by unfold fractv; omega
theorem rda_big (d : Int) (h1 : 70368744177664 ≤ d) (h2 : d ≤ 4611686018427387904) : 1073741824 ≤ rda d 65536 ∧ rda d 65536 ≤ 70368744177664 := by
  rw [rda_in d 65536 (by omega) (by omega) (by omega) (by omega)]
  exact ⟨rdv_ge _ _ _ (by omega) (by omega) (by omega), rdv_le _ _ _ (by omega) (by omega) (by omega)⟩

/-! ### the square root, bit by bit -/
def sqL : Nat → Int → Int → Int
  | 0, _, r => r
  | k + 1, n, r => sqL k n (if (r + 2 ^ k) * (r + 2 ^ k) ≤ n then r + 2 ^ k else r)
/-- The square root of n, rounded down, of at most 23 bits. -/
def sqn (n : Int) : Int := sqL 23 n 0
def sqrtv (x : Int) : Int := sqn (sat x * 65536)
/-- What stands at the head of a round with k bits to come. -/
def Sq (n : Int) (k : Nat) (r : Int) : Prop := k ≤ 23 ∧ 0 ≤ r ∧ r % 2 ^ k = 0 ∧ r + 2 ^ k ≤ 8388608 ∧ sqL k n r = sqn n
def hbit (k : Nat) : Int := 2 ^ k / 2
theorem pow_s (k : Nat) : (2 : Int) ^ (k + 1) = 2 * 2 ^ k := by rw [Int.pow_succ]; omega
theorem pow_pos2 (k : Nat) : (1 : Int) ≤ 2 ^ k := by
  have : (0 : Int) < 2 ^ k := Int.pow_pos (by decide)
  omega
theorem hbit_s (k : Nat) : hbit (k + 1) = 2 ^ k := by unfold hbit; rw [pow_s]; omega
theorem Sq.start (n : Int) : Sq n 23 0 := ⟨by omega, by omega, by decide, by decide, rfl⟩
theorem mod_half (r : Int) (k : Nat) (h : r % 2 ^ (k + 1) = 0) : r % 2 ^ k = 0 := by
  have d : (2 : Int) ^ (k + 1) ∣ r := Int.dvd_of_emod_eq_zero h
  exact Int.emod_eq_zero_of_dvd (Int.dvd_trans ⟨2, by rw [pow_s]; omega⟩ d)
theorem Sq.facts {n : Int} {k : Nat} {r : Int} (h : Sq n (k + 1) r) :
    0 ≤ r ∧ 1 ≤ hbit (k + 1) ∧ hbit (k + 1) ≤ 4194304 ∧ r + 2 * hbit (k + 1) ≤ 8388608 ∧ bits .or .i64 r (hbit (k + 1)) = r + hbit (k + 1) ∧
    0 ≤ (r + hbit (k + 1)) * (r + hbit (k + 1)) ∧ (r + hbit (k + 1)) * (r + hbit (k + 1)) ≤ 70368744177664 := by
  obtain ⟨h1, h2, h3, h4, _⟩ := h
  have p := pow_pos2 k
  rw [hbit_s]
  rw [pow_s] at h4
  have hj := bits_join .i64 62 (by decide) (fun n a b => by rw [IntKind.wrap_i64]; omega) (k + 1) r (2 ^ k) h2 h3 (by omega) (by omega) (by rw [pow_s]; omega) (by omega)
  have s1 := Int.mul_nonneg (show 0 ≤ r + 2 ^ k by omega) (show 0 ≤ r + 2 ^ k by omega)
  have s2 : (r + 2 ^ k) * (r + 2 ^ k) ≤ 8388608 * 8388608 := Int.mul_le_mul (by omega) (by omega) (by omega) (by omega)
  exact ⟨h2, p, by omega, by omega, hj, s1, by omega⟩
theorem Sq.yes {n : Int} {k : Nat} {r : Int} (h : Sq n (k + 1) r) (hn : (r + hbit (k + 1)) * (r + hbit (k + 1)) ≤ n) : Sq n k (r + hbit (k + 1)) := by
  obtain ⟨h1, h2, h3, h4, h5⟩ := h
  rw [hbit_s] at *
  have p := pow_pos2 k
  rw [pow_s] at h4
  refine ⟨by omega, by omega, ?_, by omega, ?_⟩
  · rw [Int.add_emod_right]; exact mod_half r k h3
  · rw [← h5, sqL, if_pos hn]
theorem Sq.no {n : Int} {k : Nat} {r : Int} (h : Sq n (k + 1) r) (hn : ¬ (r + hbit (k + 1)) * (r + hbit (k + 1)) ≤ n) : Sq n k r := by
  obtain ⟨h1, h2, h3, h4, h5⟩ := h
  rw [hbit_s] at *
  have p := pow_pos2 k
  rw [pow_s] at h4
  refine ⟨by omega, by omega, mod_half r k h3, by omega, ?_⟩
  rw [← h5, sqL, if_neg hn]
theorem hbit_half (k : Nat) : hbit (k + 1) / 2 = hbit k := by rw [hbit_s]; rfl
theorem Sq.done {n : Int} {r : Int} (h : Sq n 0 r) : r = sqn n := h.2.2.2.2
/-- Of a number below 1 nothing is taken. -/
theorem sqL_low (k : Nat) (n : Int) (h : n ≤ 0) : sqL k n 0 = 0 := by
  induction k with
  | zero => rfl
  | succ k ih =>
    have p := pow_pos2 k
    have : 0 < ((2 : Int) ^ k) * (2 ^ k) := Int.mul_pos (by omega) (by omega)
    rw [sqL, if_neg (by rw [Int.zero_add]; omega), ih]
theorem sqL_bd (k : Nat) : ∀ (n r : Int), 0 ≤ r → 0 ≤ n → r * r ≤ n → n < (r + 2 ^ k) * (r + 2 ^ k) →
    0 ≤ sqL k n r ∧ sqL k n r < r + 2 ^ k ∧ sqL k n r * sqL k n r ≤ n ∧ n < (sqL k n r + 1) * (sqL k n r + 1) := by
  induction k with
  | zero => intro n r h0 _ h1 h2; rw [sqL]; exact ⟨h0, by omega, h1, by simpa using h2⟩
  | succ k ih =>
    intro n r h0 hn h1 h2
    have p := pow_pos2 k
    rw [sqL, pow_s]
    rw [pow_s] at h2
    by_cases h : (r + 2 ^ k) * (r + 2 ^ k) ≤ n
    · rw [if_pos h]
      have e : r + 2 * 2 ^ k = r + 2 ^ k + 2 ^ k := by omega
      rw [e] at h2 ⊢
      exact ih n (r + 2 ^ k) (by omega) hn h h2
    · rw [if_neg h]
      obtain ⟨a, b, c, d⟩ := ih n r h0 hn h1 (by omega)
      exact ⟨a, by omega, c, d⟩
theorem sqn_bd (n : Int) (h0 : 0 ≤ n) (h1 : n < 70368744177664) : 0 ≤ sqn n ∧ sqn n < 8388608 ∧ sqn n * sqn n ≤ n ∧ n < (sqn n + 1) * (sqn n + 1) := by
  obtain ⟨a, b, c, d⟩ := sqL_bd 23 n 0 (by omega) h0 (by omega) (by omega)
  exact ⟨a, by unfold sqn; omega, c, d⟩

/-! ### what the laws ask -/
theorem bnds {n : Int} (h : (Lit.int .i64 n).wf = true) : -9223372036854775808 ≤ n ∧ n ≤ 9223372036854775807 := (Lit.wf_int_iff .i64 n).1 h
theorem addv_comm (a b : Int) : addv a b = addv b a := by unfold addv; rw [Int.add_comm]
theorem mulv_comm (a b : Int) : mulv a b = mulv b a := by unfold mulv; rw [Int.mul_comm]
theorem subv_anti (a b : Int) : subv a b = -subv b a := by unfold subv; rw [← sat_neg]; congr 1; omega
theorem addv_zero (a : Int) : addv a 0 = sat a := by
  unfold addv; rw [show sat 0 = 0 from rfl, Int.add_zero, sat_sat]
theorem subv_self (a : Int) : subv a a = 0 := by unfold subv; rw [Int.sub_self]; rfl
theorem mulv_one (a : Int) : mulv a 65536 = sat a := by
  have h := sat_bd a
  unfold mulv; rw [show sat 65536 = 65536 from rfl, rda_in _ _ (by omega) (by omega) (by omega) (by omega), rdv_mul_any _ _ (by omega), sat_sat]
theorem mulv_neg (a b : Int) : mulv (-a) b = -mulv a b := by
  unfold mulv; rw [sat_neg, Int.neg_mul, rda_neg, sat_neg]
theorem mulv_negone (a : Int) : mulv a (-65536) = -sat a := by
  rw [mulv_comm, mulv_neg, mulv_comm, mulv_one]
theorem mulv_zero (a : Int) : mulv a 0 = 0 := by
  unfold mulv; rw [show sat 0 = 0 from rfl, Int.mul_zero]; rfl
theorem mulv_sat (a b : Int) : mulv (sat a) b = mulv a b := by unfold mulv; rw [sat_sat]
theorem divv_one (a : Int) : divv a 65536 = sat a := by
  have h := sat_bd a
  unfold divv; rw [show sat 65536 = 65536 from rfl, if_neg (by omega), if_neg (by omega), rda_in _ _ (by omega) (by omega) (by omega) (by omega), rdv_mul_any _ _ (by omega), sat_sat]
theorem divv_neg (a b : Int) : divv (-a) b = -divv a b := by
  unfold divv
  rw [sat_neg]
  by_cases h : sat b = 0
  · rw [if_pos h, if_pos h]; grind
  · rw [if_neg h, if_neg h, Int.neg_mul]
    by_cases h1 : sat b < 0
    · rw [if_pos h1, if_pos h1, rda_neg, sat_neg]
    · rw [if_neg h1, if_neg h1, rda_neg, sat_neg]

theorem ratiov_low (n d : Int) (h : n < 1) : ratiov n d = 0 := by unfold ratiov; rw [if_pos (by omega)]
theorem ratiov_out (n d : Int) (h : d < 1 ∨ 4611686018427387904 < d) : ratiov n d = 0 := by unfold ratiov; rw [if_pos (by omega)]
theorem ratiov_high (n d : Int) (h1 : 1 ≤ d) (h2 : d ≤ 4611686018427387904) (h : d ≤ n) : ratiov n d = 65536 := by
  unfold ratiov; rw [if_neg (by omega), if_pos h]
theorem ratiov_mid (n d : Int) (h1 : 1 ≤ n) (h2 : n < d) (h3 : d < 70368744177664) : ratiov n d = rdv (n * 65536) d := by
  unfold ratiov; rw [if_neg (by omega), if_neg (by omega), if_pos h3, rda_in _ _ (by omega) (by omega) (by omega) (by omega)]
theorem ratiov_big (n d : Int) (h1 : 1 ≤ n) (h2 : n < d) (h3 : 70368744177664 ≤ d) (h4 : d ≤ 4611686018427387904) :
    ratiov n d = if 65536 < rdv n (rda d 65536) then 65536 else rdv n (rda d 65536) := by
  have := rda_big d h3 h4
  unfold ratiov; rw [if_neg (by omega), if_neg (by omega), if_neg (by omega), rda_in n _ (by omega) (by omega) (by omega) (by omega)]
theorem ratiov_bd (n d : Int) : 0 ≤ ratiov n d ∧ ratiov n d ≤ 65536 := by
  by_cases h0 : d < 1 ∨ 4611686018427387904 < d
  · rw [ratiov_out n d h0]; omega
  by_cases h1 : n < 1
  · rw [ratiov_low n d h1]; omega
  by_cases h2 : d ≤ n
  · rw [ratiov_high n d (by omega) (by omega) h2]; omega
  by_cases h3 : d < 70368744177664
  · rw [ratiov_mid n d (by omega) (by omega) h3]
    have a := (rdv_near (n * 65536) d (by omega) (by omega)).2.2
    exact ⟨a, rdv_le _ _ _ (by omega) (by omega) (by omega)⟩
  · rw [ratiov_big n d (by omega) (by omega) (by omega) (by omega)]
    have r := rda_big d (by omega) (by omega)
    have a := (rdv_near n (rda d 65536) (by omega) (by omega)).2.2
    split <;> omega
theorem ratiov_mono (n m d : Int) (h : n ≤ m) : ratiov n d ≤ ratiov m d := by
  have bm := ratiov_bd m d
  have bn := ratiov_bd n d
  by_cases h0 : d < 1 ∨ 4611686018427387904 < d
  · rw [ratiov_out n d h0]; omega
  by_cases h1 : n < 1
  · rw [ratiov_low n d h1]; omega
  by_cases h2 : d ≤ m
  · rw [ratiov_high m d (by omega) (by omega) h2]; omega
  by_cases h3 : d < 70368744177664
  · rw [ratiov_mid n d (by omega) (by omega) h3, ratiov_mid m d (by omega) (by omega) h3]
    exact rdv_mono _ _ _ (by omega) (by omega) (by omega)
  · rw [ratiov_big n d (by omega) (by omega) (by omega) (by omega), ratiov_big m d (by omega) (by omega) (by omega) (by omega)]
    have r := rda_big d (by omega) (by omega)
    have := rdv_mono n m (rda d 65536) (by omega) (by omega) h
    split <;> split <;> omega

theorem floorv_eq (x : Int) (h : ¬ sat x - fractv x < -536870911) : floorv x = sat x - fractv x := by
  have := sat_bd x; have := fractv_bd x
  unfold floorv; exact sat_id _ (by unfold fractv at *; omega) (by unfold fractv at *; omega)
theorem floorv_low (x : Int) (h : sat x - fractv x < -536870911) : floorv x = -536870911 ∧ sat x - fractv x = -536870912 := by
  have := sat_bd x
  unfold floorv
  constructor
  · exact sat_low _ h
  · unfold fractv at *; omega
theorem floorv_facts (x : Int) (h : ¬ sat x - fractv x < -536870911) : (floorv x).tmod 65536 = 0 ∧ floorv x + fractv x = sat x ∧ floorv (floorv x) = floorv x ∧ fractv (floorv x) = 0 ∧ floorv x ≤ sat x ∧ -536870911 ≤ floorv x := by
  have e := floorv_eq x h
  have b := sat_bd x
  have f := fractv_bd x
  have m : floorv x % 65536 = 0 := by rw [e]; unfold fractv; omega
  have s : sat (floorv x) = floorv x := sat_sat _
  have g : fractv (floorv x) = 0 := by unfold fractv; rw [s, m]
  refine ⟨?_, by omega, ?_, g, by omega, by omega⟩
  · rw [tm_if]; split <;> omega
  · have e2 : floorv (floorv x) = sat (sat (floorv x) - sat (floorv x) % 65536) := rfl
    rw [e2, s, m, Int.sub_zero, s]

theorem sqrtv_bd (x : Int) : 0 ≤ sqrtv x ∧ sqrtv x < 8388608 := by
  have b := sat_bd x
  by_cases h : 0 < sat x
  · have := sqn_bd (sat x * 65536) (by omega) (by omega)
    unfold sqrtv; omega
  · have : sqrtv x = 0 := sqL_low 23 _ (by omega)
    omega
theorem sqrtv_pos (x : Int) (h : 0 < sat x) : sqrtv x * sqrtv x ≤ sat x * 65536 ∧ sat x * 65536 < (sqrtv x + 1) * (sqrtv x + 1) := by
  have b := sat_bd x
  have := sqn_bd (sat x * 65536) (by omega) (by omega)
  exact ⟨this.2.2.1, this.2.2.2⟩
theorem sqrtv_zero (x : Int) (h : sat x ≤ 0) : sqrtv x = 0 := sqL_low 23 _ (by omega)
theorem sqrtv_mono (x y : Int) (h : x ≤ y) : sqrtv x ≤ sqrtv y := by
  have s := sat_mono x y h
  have by' := sqrtv_bd y
  by_cases h0 : 0 < sat x
  · have a := sqrtv_pos x h0
    have b := sqrtv_pos y (by omega)
    by_cases g : sqrtv x ≤ sqrtv y
    · exact g
    · have := Int.mul_le_mul (show sqrtv y + 1 ≤ sqrtv x by omega) (show sqrtv y + 1 ≤ sqrtv x by omega) (by omega) (by omega)
      omega
  · rw [sqrtv_zero x (by omega)]; omega

end Go.Proofs.Ytadndipdkdgkbaa
