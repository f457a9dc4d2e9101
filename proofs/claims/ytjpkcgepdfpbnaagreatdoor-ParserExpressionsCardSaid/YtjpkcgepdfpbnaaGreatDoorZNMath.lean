/- Numbers in a text: what the value of their digits is. No function of a program is named here. -/
import Derived.Test.YtjpkcgepdfpbnaaGreatDoorZLMath
namespace Go.Proofs.YtjpkcgepdfpbnaaGreatDoor
open Go.RowKit

def allD (t : List Int) : Prop := ∀ x ∈ t, (48 : Int) ≤ x ∧ x ≤ 57

theorem isDig_iff {x : Int} : isDig x = true ↔ 48 ≤ x ∧ x ≤ 57 := by unfold isDig; simp

theorem allD_spn (r : List Int) : allD (r.take (spn isDig r)) := by
  intro x hx
  obtain ⟨k, hk⟩ := List.mem_iff_getElem?.1 hx
  rw [List.getElem?_take] at hk
  split at hk
  · rename_i q
    exact isDig_iff.1 (spn_in q hk)
  · cases hk

theorem rnum_all : ∀ (l : List Int) (n : Int), allD l → 0 ≤ n → n ≤ 4611686018427387905 → (rnum l n).2 = true ∧ n ≤ (rnum l n).1
  | [], n, _, _, _ => ⟨rfl, Int.le_refl _⟩
  | x :: r, n, h, h0, h1 => by
    have hx := h x (by simp)
    rw [rnum_on (by omega)]
    have hc := capn_rng (d := x - 48) h0 h1 (by omega) (by omega)
    have ih := rnum_all r (capn n (x - 48)) (fun y hy => h y (by simp [hy])) hc.1 hc.2
    refine ⟨ih.1, Int.le_trans ?_ ih.2⟩
    unfold capn
    split <;> omega

theorem capn_le31 {n d : Int} (h0 : 0 ≤ n) (h1 : n ≤ 2147483647) (d0 : 0 ≤ d) (d1 : d ≤ 9) : capn n d = n * 10 + d := by
  unfold capn
  rw [if_neg (by omega)]

theorem numb_all {t : List Int} (h : allD t) (h0 : 0 < t.length) : numb t = ((rnum t 0).1, true) := by
  unfold numb
  rw [if_pos (rnum_all t 0 h (by omega) (by omega)).1, decide_eq_true h0]

theorem head_ne {t : List Int} (h : allD t) : t.head? ≠ some 45 := by
  cases t with
  | nil => simp
  | cons x r =>
    have := h x (by simp)
    simp
    omega

/-- The value of an integer. -/
theorem vlu_int {t : List Int} (h : allD t) (h0 : 0 < t.length) (hz : ¬ (t.head? = some 48 ∧ 1 < t.length)) : vlu 2 t = if 2147483647 < (rnum t 0).1 then (0, 6) else ((rnum t 0).1, 0) := by
  have hn : natv t = ((rnum t 0).1, true) := by
    unfold natv
    rw [numb_all h h0]
    simp only [Bool.true_and, Prod.mk.injEq, true_and, Bool.or_eq_true, decide_eq_true_eq]
    by_cases hl : t.length = 1
    · exact .inl hl
    · right
      intro e
      exact hz ⟨e, by omega⟩
  unfold vlu pint
  rw [if_neg (by decide), if_neg (head_ne h), hn]
  simp only [Bool.true_eq_false, if_false]
  by_cases hb : 4611686018427387904 < (rnum t 0).1
  · rw [if_pos hb, if_pos (by decide), if_pos (by omega)]
  · rw [if_neg hb, if_neg (by simp)]

theorem vlu_zero {t : List Int} (h : allD t) (hz : t.head? = some 48 ∧ 1 < t.length) : vlu 2 t = (0, 3) := by
  have hn : (natv t).2 = false := by
    unfold natv
    rw [numb_all h (by omega)]
    simp only [Bool.true_and, Bool.or_eq_false_iff, decide_eq_false_iff_not]
    exact ⟨by omega, fun e => e hz.1⟩
  unfold vlu pint
  rw [if_neg (by decide), if_neg (head_ne h), if_pos hn]
  rfl

theorem pnt_app {a c : List Int} (h : allD a) : pnt (a ++ 46 :: c) = a.length := by
  unfold pnt
  rw [List.takeWhile_append_of_pos (by
    intro x hx
    have := h x hx
    simp
    omega), List.takeWhile_cons_of_neg (by simp)]
  simp

/-- A fixed-point number with a superfluous zero or too many digits. -/
theorem vlu_bad {a c : List Int} (h : allD a) (h0 : 0 < a.length) (hz : (a.head? = some 48 ∧ 1 < a.length) ∨ 5 < c.length) : vlu 3 (a ++ 46 :: c) = (0, 3) := by
  have hh : (a ++ 46 :: c).head? ≠ some 45 := by
    cases a with
    | nil => simp at h0
    | cons x r =>
      have := h x (by simp)
      simp
      omega
  have hp := pnt_app (c := c) h
  unfold vlu pfix pfx
  rw [if_pos rfl, if_neg hh, hp]
  have ht : (a ++ 46 :: c).take a.length = a := by simp
  have hl : (a ++ 46 :: c).length - a.length - 1 = c.length := by simp
  rw [if_neg (by simp), ht, hl]
  rw [if_pos]
  rcases hz with hz | hz
  · left
    unfold natv
    rw [numb_all h h0]
    simp only [Bool.true_and, Bool.or_eq_false_iff, decide_eq_false_iff_not]
    exact ⟨by omega, fun e => e hz.1⟩
  · exact .inr (.inr hz)

/-- The state of the loop over an integer's digits: v the digits so far, n the number. -/
def NI (t : List Int) (i : Nat) (v n : Int) : Prop := i ≤ t.length ∧ 0 ≤ v ∧ v ≤ 2147483647 ∧ (rnum (t.drop i) v).1 = n

theorem ni_start (t : List Int) : NI t 0 0 (rnum t 0).1 := ⟨Nat.zero_le _, by omega, by omega, rfl⟩

theorem ni_step {t : List Int} {i : Nat} {v n x : Int} (h : allD t) (I : NI t i v n) (hx : t[i]? = some x) :
    48 ≤ x ∧ x ≤ 57 ∧ 0 ≤ v ∧ v ≤ 2147483647 ∧ (v * 10 + (x - 48) ≤ 2147483647 → NI t (i + 1) (v * 10 + (x - 48)) n) ∧ (2147483647 < v * 10 + (x - 48) → 2147483647 < n) := by
  obtain ⟨h1, h2, h3, h4⟩ := I
  obtain ⟨hi, hxx⟩ := List.getElem?_eq_some_iff.1 hx
  have hm := h x (by rw [← hxx]; exact List.getElem_mem hi)
  have hd : t.drop i = x :: t.drop (i + 1) := by rw [List.drop_eq_getElem_cons hi, hxx]
  rw [hd, rnum_on (by omega), capn_le31 h2 h3 (by omega) (by omega)] at h4
  refine ⟨hm.1, hm.2, h2, h3, fun hv => ⟨by omega, by omega, hv, h4⟩, fun hv => ?_⟩
  have := (rnum_all (t.drop (i + 1)) (v * 10 + (x - 48)) (fun y hy => h y (List.mem_of_mem_drop hy)) (by omega) (by omega)).2
  rw [h4] at this
  omega

theorem ni_end {t : List Int} {i : Nat} {v n : Int} (I : NI t i v n) (hi : ¬ i < t.length) : v = n ∧ v ≤ 2147483647 := by
  obtain ⟨h1, h2, h3, h4⟩ := I
  rw [List.drop_eq_nil_of_le (by omega)] at h4
  exact ⟨h4, h3⟩

/-! ### tkr at a digit -/

/-- Does a superfluous zero begin the number? -/
def zro (r : List Int) : Bool := decide (r.head? = some 48) && decide (1 < spn isDig r)
/-- The number of digits behind the point. -/
def zfr (r : List Int) : Nat := spn isDig (r.drop (spn isDig r + 1))

theorem any_wrd {r : List Int} (q : Nat) (hq : (nml r).2 = q) : (r[q]?).any isWrd = (r[q]?).any isLet := by
  subst hq
  have key : ∀ b, r[(nml r).2]? = some b → isDig b = false := by
    intro b hb
    unfold nml at hb
    split at hb
    · simp only at hb
      exact spn_out (p := isDig) (l := r.drop (spn isDig r + 1)) (by rw [List.getElem?_drop]; exact hb)
    · exact spn_out (p := isDig) hb
  cases hr : r[(nml r).2]? with
  | none => rfl
  | some b =>
    have := key b hr
    simp [isWrd, this]

theorem num_fix {r : List Int} (hd : (r.head?).any isDig = true) (hf : fxd r = true) :
    r.take (spn isDig r + 1 + zfr r) = r.take (spn isDig r) ++ 46 :: (r.drop (spn isDig r + 1)).take (zfr r) ∧ ((r.drop (spn isDig r + 1)).take (zfr r)).length = zfr r ∧ (r.take (spn isDig r)).length = spn isDig r ∧ 0 < spn isDig r ∧
      ((r.take (spn isDig r)).head? = r.head?) := by
  have h1 := fxd_lt hf
  have h46 : r[spn isDig r]? = some 46 := by
    unfold fxd at hf
    simp only [Bool.and_eq_true, decide_eq_true_eq] at hf
    exact hf.1
  have h2 := spn_le isDig (r.drop (spn isDig r + 1))
  have h3 := dig_spn hd
  have e : r.drop (spn isDig r) = 46 :: r.drop (spn isDig r + 1) := by
    obtain ⟨hi, hx⟩ := List.getElem?_eq_some_iff.1 h46
    rw [List.drop_eq_getElem_cons hi, hx]
  refine ⟨?_, ?_, ?_, h3, ?_⟩
  · rw [show spn isDig r + 1 + zfr r = spn isDig r + (zfr r + 1) by omega, List.take_add, e, List.take_succ_cons]
  · rw [List.length_take]
    unfold zfr
    omega
  · rw [List.length_take]; omega
  · cases r with
    | nil => rfl
    | cons x r =>
      rw [show spn isDig (x :: r) = (spn isDig (x :: r) - 1) + 1 by omega, List.take_succ_cons]
      rfl

/-- A number with a point. -/
theorem tkr_fix {r : List Int} (hd : (r.head?).any isDig = true) (hf : fxd r = true) :
    tkr r = if 5 < zfr r ∨ zro r = true ∨ (r[spn isDig r + 1 + zfr r]?).any isLet = true then (3, 0, 0, 0)
      else if (pfix (r.take (spn isDig r + 1 + zfr r))).2 ≠ 0 then ((pfix (r.take (spn isDig r + 1 + zfr r))).2, 0, 0, 0) else (0, 3, spn isDig r + 1 + zfr r, (pfix (r.take (spn isDig r + 1 + zfr r))).1) := by
  have hn : nml r = (3, spn isDig r + 1 + zfr r) := by unfold nml; rw [if_pos hf]; rfl
  obtain ⟨e1, e2, e3, e4, e5⟩ := num_fix hd hf
  have hv : vlu 3 (r.take (spn isDig r + 1 + zfr r)) = pfix (r.take (spn isDig r + 1 + zfr r)) := by unfold vlu; rw [if_pos rfl]
  unfold tkr
  rw [if_pos hd, hn]
  simp only
  rw [any_wrd (spn isDig r + 1 + zfr r) (by rw [hn]), hv]
  by_cases hl : (r[spn isDig r + 1 + zfr r]?).any isLet = true
  · rw [if_pos hl, if_pos (.inr (.inr hl))]
  · rw [if_neg hl]
    by_cases hb : 5 < zfr r ∨ zro r = true
    · have := vlu_bad (a := r.take (spn isDig r)) (c := (r.drop (spn isDig r + 1)).take (zfr r)) (allD_spn r) (by omega) (by
        rcases hb with hb | hb
        · exact .inr (by omega)
        · left
          unfold zro at hb
          simp only [Bool.and_eq_true, decide_eq_true_eq] at hb
          rw [e5]
          exact ⟨hb.1, by omega⟩)
      rw [← e1, hv] at this
      rw [this, if_pos (by decide), if_pos (show 5 < zfr r ∨ zro r = true ∨ _ from hb.elim .inl fun h => .inr (.inl h))]
    · rw [if_neg (c := 5 < zfr r ∨ zro r = true ∨ _) (by
        intro h
        rcases h with h | h | h
        · exact hb (.inl h)
        · exact hb (.inr h)
        · exact hl h)]

theorem tkr_int {r : List Int} (hd : (r.head?).any isDig = true) (hf : fxd r = false) :
    tkr r = if zro r = true ∨ (r[spn isDig r]?).any isLet = true then (3, 0, 0, 0)
      else if 2147483647 < (rnum (r.take (spn isDig r)) 0).1 then (6, 0, 0, 0) else (0, 2, spn isDig r, (rnum (r.take (spn isDig r)) 0).1) := by
  have hn : nml r = (2, spn isDig r) := by unfold nml; rw [if_neg (by rw [hf]; decide)]
  have h1 := dig_spn hd
  have h2 := spn_le isDig r
  have hl : (r.take (spn isDig r)).length = spn isDig r := by rw [List.length_take]; omega
  have hh : (r.take (spn isDig r)).head? = r.head? := by
    cases r with
    | nil => rfl
    | cons x r =>
      rw [show spn isDig (x :: r) = (spn isDig (x :: r) - 1) + 1 by omega, List.take_succ_cons]
      rfl
  unfold tkr
  rw [if_pos hd, hn]
  simp only
  rw [any_wrd (spn isDig r) (by rw [hn])]
  by_cases hw : (r[spn isDig r]?).any isLet = true
  · rw [if_pos hw, if_pos (.inr hw)]
  · rw [if_neg hw]
    by_cases hz : zro r = true
    · have hz2 := hz
      unfold zro at hz2
      simp only [Bool.and_eq_true, decide_eq_true_eq] at hz2
      rw [vlu_zero (allD_spn r) (by rw [hh, hl]; exact hz2), if_pos (by decide), if_pos (.inl hz)]
    · rw [if_neg (c := zro r = true ∨ _) (by
        intro h
        rcases h with h | h
        · exact hz h
        · exact hw h)]
      rw [vlu_int (allD_spn r) (by omega) (by
        intro h
        rw [hh, hl] at h
        apply hz
        unfold zro
        simp only [Bool.and_eq_true, decide_eq_true_eq]
        exact h)]
      by_cases hb : 2147483647 < (rnum (r.take (spn isDig r)) 0).1
      · rw [if_pos hb, if_pos (by decide), if_pos hb]
      · rw [if_neg hb, if_neg (by simp), if_neg hb]

end Go.Proofs.YtjpkcgepdfpbnaaGreatDoor
