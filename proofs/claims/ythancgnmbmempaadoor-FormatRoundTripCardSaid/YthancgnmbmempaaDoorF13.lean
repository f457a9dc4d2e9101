/- Parsing what was formatted; the shortest form; lines and fields put together again. No walk here. -/
import Derived.Test.YthancgnmbmempaaDoorF7
import Derived.Test.YthancgnmbmempaaDoorF12
namespace Go.Proofs.YthancgnmbmempaaDoor
open Go.RowKit Go.Sort

/-! ### digits -/
theorem rnum_snoc : ∀ (a : List Int) (n v x : Int), rnum a n = (v, true) → 48 ≤ x → x ≤ 57 → rnum (a ++ [x]) n = (capn v (x - 48), true)
  | [], n, v, x, h, h0, h1 => by
    simp only [rnum_nil, Prod.mk.injEq, and_true] at h
    subst h
    rw [List.nil_append, rnum_on (by omega), rnum_nil]
  | y :: r, n, v, x, h, h0, h1 => by
    by_cases hy : y < 48 ∨ 57 < y
    · rw [rnum_no hy] at h; simp at h
    · rw [rnum_on hy] at h
      rw [List.cons_append, rnum_on hy]
      exact rnum_snoc r _ v x h h0 h1

theorem capn_small {v d : Int} (h : v * 10 + d ≤ 4611686018427387905) : capn v d = v * 10 + d := by
  unfold capn; rw [if_neg (by omega)]

theorem rnum_dg (u : Nat) : (u : Int) ≤ 4611686018427387905 → rnum (dg u) 0 = ((u : Int), true) := by
  induction u using Nat.strongRecOn with
  | _ u ih =>
    intro hu
    by_cases h : u < 10
    · rw [dg_lt h, rnum_on (by omega), rnum_nil, capn_small (by omega)]
      simp only [Prod.mk.injEq, and_true]; omega
    · rw [dg_ge (by omega), rnum_snoc _ _ _ (48 + ((u % 10 : Nat) : Int)) (ih (u / 10) (by omega) (by omega)) (by omega) (by omega), capn_small (by omega)]
      simp only [Prod.mk.injEq, and_true]; omega

theorem numb_dg {u : Nat} (hu : (u : Int) ≤ 4611686018427387905) : numb (dg u) = ((u : Int), true) := by
  have := dg_pos u
  unfold numb
  rw [rnum_dg u hu]
  simp only [if_true, Prod.mk.injEq, true_and, decide_eq_true_eq]
  omega

theorem natv_dg {u : Nat} (hu : (u : Int) ≤ 4611686018427387905) : natv (dg u) = ((u : Int), true) := by
  unfold natv
  rw [numb_dg hu]
  simp only [Bool.true_and, Prod.mk.injEq, true_and, Bool.or_eq_true, decide_eq_true_eq]
  rcases Nat.eq_zero_or_pos u with rfl | h
  · left; rw [dg_lt (by omega)]; rfl
  · right
    obtain ⟨x, r, e, h1, _⟩ := dg_head u h
    rw [e]
    simp
    omega

theorem dg_no45 (u : Nat) : (dg u).head? ≠ some 45 := by
  intro h
  have := dg_rng u 45 (List.mem_of_mem_head? h)
  omega

/-- An int is parsed from its decimal form. -/
theorem pint_fint {n : Int} (h0 : -4611686018427387904 ≤ n) (h1 : n ≤ 4611686018427387904) : pint (fint n) = (n, 0) := by
  unfold pint fint
  by_cases hn : n < 0
  · rw [if_pos hn, if_pos (show (45 :: dg (-n).toNat).head? = some (45 : Int) from rfl), List.tail_cons, natv_dg (by omega)]
    rw [if_neg (by simp; omega), if_neg (by simp only; omega)]
    simp only [Prod.mk.injEq, and_true]; omega
  · rw [if_neg hn, if_neg (dg_no45 _), natv_dg (by omega)]
    rw [if_neg (by simp), if_neg (by simp only; omega)]
    simp only [Prod.mk.injEq, and_true]; omega

/-! ### the digits behind the point -/
theorem dg_ne (u : Nat) : dg u ≠ [] := fun h => by have := dg_pos u; rw [h] at this; simp at this

/-- k digits of a number below 10^k. -/
def zd (k : Nat) (f : Nat) : List Int := (dg (10 ^ k + f)).tail

theorem zd_zero : zd 0 0 = [] := by
  unfold zd
  rw [dg_lt (by omega)]; rfl

theorem zd_succ (k f : Nat) : zd (k + 1) f = zd k (f / 10) ++ [48 + ((f % 10 : Nat) : Int)] := by
  unfold zd
  have h1 : 1 ≤ 10 ^ k := Nat.one_le_pow k 10 (by omega)
  have e : 10 ^ (k + 1) = 10 ^ k * 10 := Nat.pow_succ 10 k
  rw [dg_ge (by omega), show (10 ^ (k + 1) + f) / 10 = 10 ^ k + f / 10 by omega, show (10 ^ (k + 1) + f) % 10 = f % 10 by omega, List.tail_append_of_ne_nil (dg_ne _)]

theorem zd_len : ∀ k f : Nat, f < 10 ^ k → (zd k f).length = k
  | 0, f, h => by
    obtain rfl : f = 0 := by simpa using h
    rw [zd_zero]; rfl
  | k + 1, f, h => by
    rw [zd_succ, List.length_append, zd_len k (f / 10) (by rw [Nat.pow_succ] at h; omega)]; rfl

theorem zd_num : ∀ k f : Nat, f < 10 ^ k → k ≤ 18 → rnum (zd k f) 0 = ((f : Int), true)
  | 0, f, h, _ => by
    obtain rfl : f = 0 := by simpa using h
    rw [zd_zero]; rfl
  | k + 1, f, h, hk => by
    have hb : 10 ^ (k + 1) ≤ 10 ^ 18 := Nat.pow_le_pow_right (by omega) hk
    have hb2 : (10 : Nat) ^ 18 = 1000000000000000000 := by decide
    rw [zd_succ, rnum_snoc _ _ _ (48 + ((f % 10 : Nat) : Int)) (zd_num k (f / 10) (by rw [Nat.pow_succ] at h; omega) (by omega)) (by omega) (by omega), capn_small (by omega)]
    simp only [Prod.mk.injEq, and_true]; omega

theorem zd_numb {k f : Nat} (h : f < 10 ^ k) (h1 : 1 ≤ k) (hk : k ≤ 18) : numb (zd k f) = ((f : Int), true) := by
  unfold numb
  rw [zd_num k f h hk, zd_len k f h]
  simp only [if_true, Prod.mk.injEq, true_and, decide_eq_true_eq]
  omega

theorem zd_drop {k f : Nat} : (zd (k + 1) f).dropLast = zd k (f / 10) := by rw [zd_succ, List.dropLast_concat]

/-- The digits behind the point are those of the first number of digits that will do. -/
theorem frac_zd {r : Int} (r0 : 0 ≤ r) (r1 : r ≤ 65535) : ∃ f : Nat, fdig r (kfirst r) = f ∧ f < 10 ^ kfirst r ∧ rda ((f : Int) * 65536) (p10 (kfirst r)) = r ∧ frac r = zd (kfirst r) f := by
  obtain ⟨hk, h1, h5⟩ := kfirst_ok r0 r1
  have hf := fdig_is h1 h5 r0 r1
  unfold kok at hk
  simp only [Bool.and_eq_true, decide_eq_true_eq] at hk
  obtain ⟨f, e⟩ : ∃ f : Nat, fdig r (kfirst r) = f := ⟨(fdig r (kfirst r)).toNat, by omega⟩
  rw [e] at hk
  rw [p10_nat] at hk
  refine ⟨f, e, by omega, by rw [p10_nat]; exact hk.2, ?_⟩
  unfold frac zd
  rw [e, p10_nat]
  congr 2

theorem pnt_at {a b : List Int} (h : ∀ x ∈ a, x ≠ 46) : pnt (a ++ 46 :: b) = a.length := by
  unfold pnt
  rw [List.takeWhile_append_of_pos (by intro x hx; simpa using h x hx), List.takeWhile_cons_of_neg (by simp), List.append_nil]

theorem dg_no46 (u : Nat) : ∀ x ∈ dg u, x ≠ 46 := fun x hx => by have := dg_rng u x hx; omega

/-- What a decimal form with k digits behind the point is parsed to. -/
theorem pfx_form {neg : Bool} {u k f : Nat} (hu : u ≤ 536870911) (hf : f < 10 ^ k) (h1 : 1 ≤ k) (h5 : k ≤ 5) : pfx neg (dg u ++ 46 :: zd k f) =
    if neg = true ∧ (u : Int) * 65536 + rda ((f : Int) * 65536) (p10 k) = 0 then (0, 3) else if 536870911 < (u : Int) * 65536 + rda ((f : Int) * 65536) (p10 k) then (0, 6)
    else if neg = true then (-((u : Int) * 65536 + rda ((f : Int) * 65536) (p10 k)), 0) else ((u : Int) * 65536 + rda ((f : Int) * 65536) (p10 k), 0) := by
  have hp := pnt_at (b := zd k f) (dg_no46 u)
  have hl : (dg u ++ 46 :: zd k f).length = (dg u).length + 1 + k := by rw [List.length_append, List.length_cons, zd_len k f hf]; omega
  unfold pfx
  rw [hp, hl, List.take_left, if_neg (by omega), natv_dg (by omega), show List.drop ((dg u).length + 1) (dg u ++ 46 :: zd k f) = zd k f by rw [← List.drop_drop, List.drop_left]; rfl, zd_numb hf h1 (by omega), show (dg u).length + 1 + k - (dg u).length - 1 = k by omega]
  rw [if_neg (by simp; omega), if_neg (by simp only; omega)]

end Go.Proofs.YthancgnmbmempaaDoor
