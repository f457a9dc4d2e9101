/- An accepted int's decimal form is the string; the chapter's examples. No walk here. -/
import Derived.Test.YthancgnmbmempaaDoorF14
namespace Go.Proofs.YthancgnmbmempaaDoor
open Go.RowKit Go.Sort

theorem capn_top {d : Int} (d0 : 0 ≤ d) (d1 : d ≤ 9) : capn 4611686018427387905 d = 4611686018427387905 := by
  unfold capn; rw [if_pos (by omega)]

theorem rnum_top : ∀ (L : List Int) (v : Int), rnum L 4611686018427387905 = (v, true) → v = 4611686018427387905
  | [], v, h => by simp only [rnum_nil, Prod.mk.injEq, and_true] at h; exact h.symm
  | x :: r, v, h => by
    by_cases hx : x < 48 ∨ 57 < x
    · rw [rnum_no hx] at h; simp at h
    · rw [rnum_on hx, capn_top (by omega) (by omega)] at h
      exact rnum_top r v h

theorem rnum_back : ∀ (L : List Int) (n : Nat) (v : Int), rnum L n = (v, true) → v ≤ 4611686018427387904 → 1 ≤ n → dg v.toNat = dg n ++ L
  | [], n, v, h, _, _ => by
    simp only [rnum_nil, Prod.mk.injEq, and_true] at h
    subst h
    simp
  | x :: r, n, v, h, hv, hn => by
    by_cases hx : x < 48 ∨ 57 < x
    · rw [rnum_no hx] at h; simp at h
    · rw [rnum_on hx] at h
      by_cases hc : (4611686018427387905 - (x - 48)) / 10 < (n : Int)
      · rw [show capn (n : Int) (x - 48) = 4611686018427387905 by unfold capn; rw [if_pos hc]] at h
        have := rnum_top r v h
        omega
      · rw [show capn (n : Int) (x - 48) = ((n * 10 + (x - 48).toNat : Nat) : Int) by unfold capn; rw [if_neg hc]; omega] at h
        rw [rnum_back r _ v h hv (by omega), dg_ge (by omega), show (n * 10 + (x - 48).toNat) / 10 = n by omega, show (48 : Int) + (((n * 10 + (x - 48).toNat) % 10 : Nat) : Int) = x by omega, List.append_assoc]
        rfl

/-- The decimal form of an accepted number is the string. -/
theorem natv_back {L : List Int} {v : Int} (h : natv L = (v, true)) (hv : v ≤ 4611686018427387904) : 0 ≤ v ∧ dg v.toNat = L := by
  have h0 := natv_rng L
  rw [h] at h0
  refine ⟨h0.1, ?_⟩
  unfold natv numb at h
  by_cases h2 : (rnum L 0).2 = true
  · rw [if_pos h2] at h
    simp only [Prod.mk.injEq, Bool.and_eq_true, decide_eq_true_eq, Bool.or_eq_true] at h
    obtain ⟨hv', hl, hz⟩ := h
    have hr : rnum L 0 = (v, true) := by rw [← hv', ← h2]
    match L, hl, hz, hr with
    | x :: r, _, hz, hr =>
      by_cases hx : x < 48 ∨ 57 < x
      · rw [rnum_no hx] at hr; simp at hr
      · rw [rnum_on hx, capn_small (by omega)] at hr
        by_cases h48 : x = 48
        · subst h48
          rcases hz with hz | hz
          · obtain rfl : r = [] := by simpa using hz
            simp only [rnum_nil, Prod.mk.injEq, and_true] at hr
            subst hr
            rw [dg_lt (by decide)]; rfl
          · simp at hz
        · have := rnum_back r (x - 48).toNat v (by rw [show (((x - 48).toNat : Nat) : Int) = 0 * 10 + (x - 48) by omega]; exact hr) hv (by omega)
          rw [this, dg_lt (by omega), show (48 : Int) + (((x - 48).toNat : Nat) : Int) = x by omega]
          rfl
  · rw [if_neg h2] at h
    simp at h

theorem pint_back {L : List Int} {v : Int} (h : pint L = (v, 0)) : fint v = L := by
  unfold pint at h
  by_cases hm : L.head? = some 45
  · rw [if_pos hm] at h
    obtain ⟨n, ok, e⟩ : ∃ n ok, natv L.tail = (n, ok) := ⟨_, _, rfl⟩
    rw [e] at h
    simp only at h
    split at h
    · simp at h
    · split at h
      · simp at h
      · rename_i h1 h2
        cases ok
        · simp at h1
        · simp only [Prod.mk.injEq, and_true] at h
          obtain ⟨n0, hd⟩ := natv_back e (by omega)
          have hn : n ≠ 0 := fun hz => h1 (.inr hz)
          subst h
          unfold fint
          rw [if_pos (by omega), show (- -n).toNat = n.toNat by omega, hd]
          match L, hm with
          | x :: r, hm => simp only [List.head?_cons, Option.some.injEq] at hm; rw [hm]; rfl
  · rw [if_neg hm] at h
    obtain ⟨n, ok, e⟩ : ∃ n ok, natv L = (n, ok) := ⟨_, _, rfl⟩
    rw [e] at h
    simp only at h
    split at h
    · simp at h
    · split at h
      · simp at h
      · rename_i h1 h2
        cases ok
        · simp at h1
        · simp only [Prod.mk.injEq, and_true] at h
          obtain ⟨n0, hd⟩ := natv_back e (by omega)
          subst h
          unfold fint
          rw [if_neg (by omega), hd]

theorem pint_rng {L : List Int} {v : Int} (h : pint L = (v, 0)) : -4611686018427387904 ≤ v ∧ v ≤ 4611686018427387904 := by
  have h1 := natv_rng L
  have h2 := natv_rng L.tail
  unfold pint at h
  split at h <;> (split at h <;> first | (simp at h; done) | (split at h <;> first | (simp at h; done) | (simp only [Prod.mk.injEq, and_true] at h; omega)))

/-! ### the examples -/
theorem dg1 : dg 1 = [49] := by rw [dg_lt (by omega)]; rfl
theorem dg0 : dg 0 = [48] := by rw [dg_lt (by omega)]; rfl

theorem ex_a : ffix 98304 = [49, 46, 53] := by
  rw [ffix_pos (by omega) (by omega)]
  unfold body
  rw [show (98304 : Int).natAbs / 65536 = 1 by decide, show (((98304 : Int).natAbs % 65536 : Nat) : Int) = 32768 by decide, dg1]
  unfold frac
  rw [show kfirst 32768 = 1 by decide, show (p10 1 + fdig 32768 1).toNat = 15 by decide, dg_ge (by omega), show 15 / 10 = 1 by decide, dg1]
  rfl

theorem ex_b : ffix 1 = [48, 46, 48, 48, 48, 48, 50] := by
  rw [ffix_pos (by omega) (by omega)]
  unfold body
  rw [show (1 : Int).natAbs / 65536 = 0 by decide, show (((1 : Int).natAbs % 65536 : Nat) : Int) = 1 by decide, dg0]
  unfold frac
  rw [show kfirst 1 = 5 by decide, show (p10 5 + fdig 1 5).toNat = 100002 by decide, dg_ge (by omega), show 100002 / 10 = 10000 by decide, dg_ge (by omega), show 10000 / 10 = 1000 by decide, dg_ge (by omega), show 1000 / 10 = 100 by decide, dg_ge (by omega), show 100 / 10 = 10 by decide, dg_ge (by omega), show 10 / 10 = 1 by decide, dg1]
  rfl

theorem ex_c : ffix (-65536) = [45, 49, 46, 48] := by
  rw [ffix_neg (by omega) (by omega)]
  unfold body
  rw [show (-65536 : Int).natAbs / 65536 = 1 by decide, show (((-65536 : Int).natAbs % 65536 : Nat) : Int) = 0 by decide, dg1]
  unfold frac
  rw [show kfirst 0 = 1 by decide, show (p10 1 + fdig 0 1).toNat = 10 by decide, dg_ge (by omega), show 10 / 10 = 1 by decide, dg1]
  rfl

theorem ex_d : pfix [49, 46, 53, 48] = (98304, 0) := by decide

end Go.Proofs.YthancgnmbmempaaDoor
