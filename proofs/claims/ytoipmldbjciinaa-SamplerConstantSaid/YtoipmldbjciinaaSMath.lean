/- The numbers of sampling. No function of a program is named here. -/
import Derived.Test.YtoipmldbjciinaaL5
import Derived.Test.YtoipmldbjciinaaAMath
namespace Go.Proofs.Ytoipmldbjciinaa
open Go.RowKit Go.Sort
set_option linter.unusedVariables false

/-- A valid sampler's numbers. -/
def SVm (s : Nat → Int) : Prop := (1 ≤ s 0 ∧ s 0 ≤ 4) ∧ (1 ≤ s 1 ∧ s 1 ≤ 4) ∧ (s 2 = 1 ∨ s 2 = 2) ∧ (s 3 = 1 ∨ s 3 = 2) ∧ (s 4 = 1 ∨ s 4 = 2)
def SVb (s : Nat → Int) : Prop := (0 ≤ s 5 ∧ s 5 ≤ 65536) ∧ (0 ≤ s 6 ∧ s 6 ≤ 65536) ∧ (0 ≤ s 7 ∧ s 7 ≤ 65536) ∧ (0 ≤ s 8 ∧ s 8 ≤ 65536)
def SVl (s : Nat → Int) : Prop := -524288 ≤ s 9 ∧ s 9 ≤ 524288 ∧ 0 ≤ s 10 ∧ s 10 ≤ s 11 ∧ s 11 ≤ 524288
def SV (s : Nat → Int) : Prop := SVm s ∧ SVb s ∧ SVl s
instance (s : Nat → Int) : Decidable (SVm s) := by unfold SVm; infer_instance
instance (s : Nat → Int) : Decidable (SVb s) := by unfold SVb; infer_instance
instance (s : Nat → Int) : Decidable (SVl s) := by unfold SVl; infer_instance
instance (s : Nat → Int) : Decidable (SV s) := by unfold SV; infer_instance

/-- A level of a texture, a texel of a level as the sampler sees it. -/
def lvl (ts : List Tx) (k : Int) : Im := (ts.getD k.toNat default).m
def can (ts : List Tx) (s : Nat → Int) (k : Int) : Prop := (0 ≤ k ∧ k < ts.length) ∧ SV s ∧ tv ts = true
instance (ts : List Tx) (s : Nat → Int) (k : Int) : Decidable (can ts s k) := by unfold can; infer_instance
def col (ts : List Tx) (s : Nat → Int) (x y k : Int) (i : Nat) : Int :=
  if idxv (s 0) x (lvl ts k).w < 0 ∨ idxv (s 1) y (lvl ts k).h < 0 then s (5 + i) else tgt ts (idxv (s 0) x (lvl ts k).w) (idxv (s 1) y (lvl ts k).h) k i
def stx (ts : List Tx) (s : Nat → Int) (x y k : Int) (i : Nat) : Int := if can ts s k then col ts s x y k i else 0
def btw (ts : List Tx) (s : Nat → Int) (a b k : Int) (i : Nat) : Int :=
  lerpv (lerpv (col ts s (a / 65536) (b / 65536) k i) (col ts s (a / 65536 + 1) (b / 65536) k i) (a % 65536)) (lerpv (col ts s (a / 65536) (b / 65536 + 1) k i) (col ts s (a / 65536 + 1) (b / 65536 + 1) k i) (a % 65536)) (b % 65536)
def slv (ts : List Tx) (s : Nat → Int) (u v k f : Int) (i : Nat) : Int :=
  if can ts s k then (if f = 1 then col ts s (sat u * (lvl ts k).w / 65536) (sat v * (lvl ts k).h / 65536) k i else if f = 2 then btw ts s (sat u * (lvl ts k).w - 32768) (sat v * (lvl ts k).h - 32768) k i else 0) else 0
def lodv (s : Nat → Int) (l : Int) : Int := if SV s then clampv (addv l (s 9)) (s 10) (s 11) else 0
def sfil (s : Nat → Int) (d : Int) : Int := if d = 0 then s 2 else s 3
def mn (a b : Int) : Int := if b < a then b else a
def smv (ts : List Tx) (s : Nat → Int) (u v l : Int) (i : Nat) : Int :=
  if s 4 = 1 then slv ts s u v (mn ((lodv s l + 32768) / 65536) ((ts.length : Int) - 1)) (sfil s (lodv s l)) i
  else lerpv (slv ts s u v (mn (lodv s l / 65536) ((ts.length : Int) - 1)) (sfil s (lodv s l)) i) (slv ts s u v (mn (lodv s l / 65536 + 1) ((ts.length : Int) - 1)) (sfil s (lodv s l)) i) (lodv s l % 65536)

theorem lodv_rng (s : Nat → Int) (l : Int) : 0 ≤ lodv s l ∧ lodv s l ≤ 524288 := by
  unfold lodv
  split
  · rename_i h
    obtain ⟨_, _, h1, h2, h3, h4, h5⟩ := h
    unfold clampv
    split
    · exact ⟨h3, by omega⟩
    · split <;> omega
  · omega

theorem lerpv_zero (t : Int) : lerpv 0 0 t = 0 := by
  unfold lerpv
  have h : subv 0 0 = 0 := subv_self 0
  rw [h]
  have h2 : mulv 0 (clampv t 0 65536) = 0 := by rw [mulv_comm]; exact mulv_zero _
  rw [h2]
  decide +kernel

theorem slv_no {ts : List Tx} {s : Nat → Int} {u v k f : Int} (h : ¬ can ts s k) (i : Nat) : slv ts s u v k f i = 0 := if_neg h

/-- Without a level to sample all is zero. -/
theorem smv_no {ts : List Tx} {s : Nat → Int} {u v l : Int} (h : ¬ can ts s 0) (i : Nat) : smv ts s u v l i = 0 := by
  have hz : ∀ k f, slv ts s u v (mn k ((ts.length : Int) - 1)) f i = 0 := by
    intro k f
    refine slv_no (fun hc => h ?_) i
    obtain ⟨⟨h1, h2⟩, h3⟩ := hc
    have h4 : (0 : Int) < ts.length := by unfold mn at h1; split at h1 <;> omega
    exact ⟨⟨by omega, h4⟩, h3⟩
  unfold smv
  split
  · exact hz _ _
  · rw [hz, hz, lerpv_zero]

/-- A level of a valid texture is at most 64 wide and high. -/
theorem tvK_all {ts : List Tx} : ∀ n, tvK ts n = true → ∀ j, j < n → lok (ts.getD 0 default).m j (ts.getD j default).m = true := by
  intro n
  induction n with
  | zero => intro _ j hj; omega
  | succ n ih =>
    intro h j hj
    rw [tvK, Bool.and_eq_true] at h
    rcases Nat.lt_or_ge j n with k | k
    · exact ih h.1 j k
    · obtain rfl : j = n := by omega
      exact h.2
theorem tv_lok {ts : List Tx} (h : tv ts = true) {j : Nat} (hj : j < ts.length) : lok (ts.getD 0 default).m j (ts.getD j default).m = true := by
  unfold tv at h
  rw [Bool.and_eq_true] at h
  exact tvK_all _ h.2 j hj
theorem can_ok {ts : List Tx} {s : Nat → Int} {k : Int} (h : can ts s k) : (lvl ts k).ok := by
  obtain ⟨⟨h1, h2⟩, _, h3⟩ := h
  have h4 := tv_lok h3 (j := k.toNat) (by omega)
  unfold lok at h4
  exact (of_decide_eq_true h4).1

theorem sat_w {x : Int} {w : Int} (hw : 1 ≤ w ∧ w ≤ 64) : -34359738304 ≤ sat x * w ∧ sat x * w ≤ 34359738304 := by
  have h := prod_bd (sat x) w 536870911 (sat_bd x) (by omega)
  obtain ⟨h1, h2⟩ := sat_bd x
  have h3 : sat x * w ≤ 536870911 * w := Int.mul_le_mul_of_nonneg_right h2 (by omega)
  have h4 : -536870911 * w ≤ sat x * w := Int.mul_le_mul_of_nonneg_right h1 (by omega)
  omega

/-! ### the logarithm -/
def lg (y : Int) : Int := (blen y - 17) * 65536 + rda ((y - pw (blen y - 1)) * 65536) (pw (blen y - 1))
def log2v (x : Int) : Int := if x < 1 then 0 else lg (mn x 1099511627776)
def exv (x n : Int) : Int := (if sat x < -sat x then -sat x else sat x) * clampv n 1 64
def mx (x y : Int) : Int := if x < y then y else x
def ftv (w h a b c d : Int) : Int := mx 0 (log2v (mx (mx (exv a w) (exv b h)) (mx (exv c w) (exv d h))))

theorem blen_rng {y : Int} (h1 : 1 ≤ y) (h2 : y ≤ 1099511627776) : 1 ≤ blen y ∧ blen y ≤ 41 ∧ pw (blen y - 1) ≤ y ∧ y < 2 * pw (blen y - 1) ∧ pw (blen y - 1) ≤ 1099511627776 := by
  obtain ⟨a, b, c⟩ := blen_spec y (by omega)
  have e : pw 40 = 1099511627776 := rfl
  have e2 : pw 41 = 2199023255552 := rfl
  have hs : pw (blen y) = 2 * pw (blen y - 1) := by
    have := pw_succ (blen y - 1) (by omega)
    rw [show blen y - 1 + 1 = blen y by omega] at this
    exact this
  have h41 : blen y ≤ 41 := by
    apply Classical.byContradiction
    intro hn
    have := pw_le 41 (blen y - 1) (by omega)
    omega
  refine ⟨a, h41, b, by omega, ?_⟩
  have := pw_le (blen y - 1) 40 (by omega)
  omega

/-- The number of bits, told by two powers. -/
theorem blen_is {y e : Int} (h0 : 0 ≤ e) (h1 : pw e ≤ y) (h2 : y < pw (e + 1)) : blen y = e + 1 := by
  have hp := pw_pos e
  obtain ⟨a, b, c⟩ := blen_spec y (by omega)
  rcases Int.lt_trichotomy (blen y) (e + 1) with h | h | h
  · have := pw_le (blen y) e (by omega); omega
  · exact h
  · have := pw_le (e + 1) (blen y - 1) (by omega); omega

theorem lg_rem {y : Int} (h1 : 1 ≤ y) (h2 : y ≤ 1099511627776) : ∃ r, rda ((y - pw (blen y - 1)) * 65536) (pw (blen y - 1)) = r ∧ r = rdv ((y - pw (blen y - 1)) * 65536) (pw (blen y - 1)) ∧ 0 ≤ r ∧ r ≤ 65536 := by
  obtain ⟨a, b, c, d, e⟩ := blen_rng h1 h2
  have hp := pw_pos (blen y - 1)
  obtain ⟨p, hpp⟩ : ∃ p, pw (blen y - 1) = p := ⟨_, rfl⟩
  rw [hpp] at c d e hp ⊢
  refine ⟨_, rfl, rda_in _ _ hp (by omega) (by omega) (by omega), ?_, ?_⟩
  · rw [rda_in _ _ hp (by omega) (by omega) (by omega)]
    exact rdv_ge _ _ 0 hp (by omega) (by omega)
  · rw [rda_in _ _ hp (by omega) (by omega) (by omega)]
    exact rdv_le _ _ 65536 hp (by omega) (by omega)

theorem lg_rng {y : Int} (h1 : 1 ≤ y) (h2 : y ≤ 1099511627776) : (blen y - 17) * 65536 ≤ lg y ∧ lg y ≤ (blen y - 16) * 65536 := by
  obtain ⟨r, hr, _, h3, h4⟩ := lg_rem h1 h2
  unfold lg
  rw [hr]
  omega

theorem blen_mono {x y : Int} (h1 : 1 ≤ x) (h : x ≤ y) : blen x ≤ blen y := by
  obtain ⟨a, b, c⟩ := blen_spec x (by omega)
  obtain ⟨a', b', c'⟩ := blen_spec y (by omega)
  apply Classical.byContradiction
  intro hn
  have := pw_le (blen y) (blen x - 1) (by omega)
  omega

theorem lg_mono {x y : Int} (h1 : 1 ≤ x) (h : x ≤ y) (h2 : y ≤ 1099511627776) : lg x ≤ lg y := by
  have hb := blen_mono h1 h
  rcases Int.lt_or_eq_of_le hb with k | k
  · have := (lg_rng h1 (by omega)).2
    have := (lg_rng (show 1 ≤ y by omega) h2).1
    omega
  · obtain ⟨r, hr, hr2, _⟩ := lg_rem h1 (by omega)
    obtain ⟨r', hr', hr2', _⟩ := lg_rem (show 1 ≤ y by omega) h2
    obtain ⟨_, _, c, _, _⟩ := blen_rng h1 (by omega)
    unfold lg
    rw [hr, hr', hr2, hr2', k]
    have hm := rdv_mono ((x - pw (blen y - 1)) * 65536) ((y - pw (blen y - 1)) * 65536) (pw (blen y - 1)) (pw_pos _) (by rw [k] at c; omega) (by omega)
    omega

theorem rdv_two (n d : Int) (h : 1 ≤ d) (hn : 0 ≤ n) : rdv (2 * n) (2 * d) = rdv n d := by
  unfold rdv
  rw [if_pos (by omega), if_pos hn, show 2 * (2 * n) + 2 * d = 2 * (2 * n + d) by omega, Int.mul_ediv_mul_of_pos _ _ (by omega)]

theorem lg_two {x : Int} (h1 : 1 ≤ x) (h2 : x ≤ 549755813888) : lg (2 * x) = lg x + 65536 := by
  obtain ⟨a, b, c⟩ := blen_spec x (by omega)
  have e : blen (2 * x) = blen x + 1 := by
    have h3 := pw_succ (blen x) (by omega)
    have h4 := pw_succ (blen x - 1) (by omega)
    rw [show blen x - 1 + 1 = blen x by omega] at h4
    exact blen_is (by omega) (by omega) (by omega)
  obtain ⟨r, hr, hr2, _⟩ := lg_rem h1 (by omega)
  obtain ⟨r', hr', hr2', _⟩ := lg_rem (show 1 ≤ 2 * x by omega) (by omega)
  have h4 := pw_succ (blen x - 1) (by omega)
  rw [show blen x - 1 + 1 = blen x by omega] at h4
  unfold lg
  rw [hr, hr', hr2, hr2', e, show blen x + 1 - 1 = blen x by omega, h4, show (2 * x - 2 * pw (blen x - 1)) * 65536 = 2 * ((x - pw (blen x - 1)) * 65536) by omega, rdv_two _ _ (pw_pos _) (by omega)]
  omega

theorem lg_pw {e : Int} (h0 : 0 ≤ e) (h : e ≤ 40) : lg (pw e) = (e - 16) * 65536 := by
  have hb : blen (pw e) = e + 1 := blen_is h0 (Int.le_refl _) (by have := pw_succ e h0; have := pw_pos e; omega)
  have h1 := pw_pos e
  have h2 := pw_le e 40 h
  have e40 : pw 40 = 1099511627776 := rfl
  obtain ⟨r, hr, hr2, _⟩ := lg_rem h1 (by omega)
  unfold lg
  rw [hr, hr2, hb, show e + 1 - 1 = e by omega, Int.sub_self, Int.zero_mul, rdv_zero _ h1]
  omega

theorem log2v_mono {x y : Int} (h : x ≤ y) (h1 : 1 ≤ x) : log2v x ≤ log2v y := by
  unfold log2v mn
  rw [if_neg (by omega), if_neg (show ¬ y < 1 by omega)]
  refine lg_mono ?_ ?_ ?_
  · split <;> omega
  · split <;> split <;> omega
  · split <;> omega
theorem log2v_low {x : Int} (h : x < 1) : log2v x = 0 := if_pos h
theorem log2v_in {x : Int} (h : 1 ≤ x) (h2 : x ≤ 1099511627776) : log2v x = lg x := by
  unfold log2v mn
  rw [if_neg (show ¬ x < 1 by omega), if_neg (by omega)]
theorem log2v_high {x : Int} (h : 1099511627776 ≤ x) : log2v x = 1572864 := by
  unfold log2v mn
  rw [if_neg (by omega), show (if 1099511627776 < x then (1099511627776 : Int) else x) = pw 40 by (show _ = (1099511627776 : Int)); split <;> omega, lg_pw (by omega) (by omega)]
  rfl

end Go.Proofs.Ytoipmldbjciinaa
