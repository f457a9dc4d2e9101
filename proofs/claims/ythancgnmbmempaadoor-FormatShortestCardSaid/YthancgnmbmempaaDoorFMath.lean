/- Decimal forms as lists of bytes. No function of a program is named here. -/
import Derived.Test.YthancgnmbmempaaDoorStr
namespace Go.Proofs.YthancgnmbmempaaDoor
open Go.RowKit

/-- The decimal form of a number. -/
def dg (u : Nat) : List Int := if u < 10 then [48 + (u : Int)] else dg (u / 10) ++ [48 + ((u % 10 : Nat) : Int)]
termination_by u
decreasing_by omega

theorem dg_lt {u : Nat} (h : u < 10) : dg u = [48 + (u : Int)] := by rw [dg, if_pos h]
theorem dg_ge {u : Nat} (h : 10 ≤ u) : dg u = dg (u / 10) ++ [48 + ((u % 10 : Nat) : Int)] := by rw [dg, if_neg (by omega)]

theorem dg_rng (u : Nat) : ∀ x ∈ dg u, (48 : Int) ≤ x ∧ x ≤ 57 := by
  induction u using Nat.strongRecOn with
  | _ u ih =>
    intro x hx
    by_cases h : u < 10
    · rw [dg_lt h] at hx
      simp at hx
      omega
    · rw [dg_ge (by omega)] at hx
      rcases List.mem_append.1 hx with hx | hx
      · exact ih (u / 10) (by omega) x hx
      · simp at hx
        omega

theorem dg_pos (u : Nat) : 1 ≤ (dg u).length := by
  by_cases h : u < 10
  · rw [dg_lt h]; simp
  · rw [dg_ge (by omega)]; simp

theorem dg_len (k : Nat) : ∀ u : Nat, u < 10 ^ (k + 1) → (dg u).length ≤ k + 1 := by
  induction k with
  | zero => intro u hu; rw [dg_lt (by simpa using hu)]; simp
  | succ k ih =>
    intro u hu
    by_cases h : u < 10
    · rw [dg_lt h]; simp
    · rw [dg_ge (by omega)]
      have := ih (u / 10) (by
        rw [Nat.pow_succ] at hu
        exact Nat.div_lt_of_lt_mul (by rw [Nat.mul_comm]; exact hu))
      simp only [List.length_append, List.length_singleton]
      omega

theorem dg_len64 (u : Nat) (h : u < 18446744073709551616) : (dg u).length ≤ 20 :=
  dg_len 19 u (by
    have e : (10 : Nat) ^ (19 + 1) = 100000000000000000000 := by decide
    rw [e]; omega)

/-- No leading zero but in '0'. -/
theorem dg_head (u : Nat) (h : 0 < u) : ∃ x r, dg u = x :: r ∧ (49 : Int) ≤ x ∧ x ≤ 57 := by
  induction u using Nat.strongRecOn with
  | _ u ih =>
    by_cases h10 : u < 10
    · exact ⟨48 + u, [], dg_lt h10, by omega, by omega⟩
    · obtain ⟨x, r, e, h1, h2⟩ := ih (u / 10) (by omega) (by omega)
      exact ⟨x, r ++ [48 + ((u % 10 : Nat) : Int)], by rw [dg_ge (by omega), e]; rfl, h1, h2⟩

/-- The decimal form of an int. -/
def fint (n : Int) : List Int := if n < 0 then 45 :: dg (-n).toNat else dg n.toNat

/-- One digit more, up to 2^62 + 1. -/
def capn (n d : Int) : Int := if (4611686018427387905 - d) / 10 < n then 4611686018427387905 else n * 10 + d

/-- The number of some digits behind n, up to 2^62 + 1; whether they are digits. -/
def rnum : List Int → Int → Int × Bool
  | [], n => (n, true)
  | x :: r, n => if x < 48 ∨ 57 < x then (0, false) else rnum r (capn n (x - 48))

theorem rnum_nil (n : Int) : rnum [] n = (n, true) := rfl
theorem rnum_no {x : Int} {r : List Int} {n : Int} (h : x < 48 ∨ 57 < x) : rnum (x :: r) n = (0, false) := by rw [rnum, if_pos h]
theorem rnum_on {x : Int} {r : List Int} {n : Int} (h : ¬ (x < 48 ∨ 57 < x)) : rnum (x :: r) n = rnum r (capn n (x - 48)) := by rw [rnum, if_neg h]

theorem capn_rng {n d : Int} (h0 : 0 ≤ n) (h1 : n ≤ 4611686018427387905) (d0 : 0 ≤ d) (d1 : d ≤ 9) : 0 ≤ capn n d ∧ capn n d ≤ 4611686018427387905 := by
  unfold capn; split <;> omega

/-- The number of a string of digits. -/
def numb (l : List Int) : Int × Bool := if (rnum l 0).2 = true then ((rnum l 0).1, decide (0 < l.length)) else (0, false)

/-- The number of a decimal form without a sign. -/
def natv (l : List Int) : Int × Bool := ((numb l).1, (numb l).2 && (decide (l.length = 1) || decide (l.head? ≠ some 48)))

/-- Parsing an int: it, the error. -/
def pint (l : List Int) : Int × Int :=
  if l.head? = some 45 then
    (if (natv l.tail).2 = false ∨ (natv l.tail).1 = 0 then (0, 3) else if 4611686018427387904 < (natv l.tail).1 then (0, 6) else (-(natv l.tail).1, 0))
  else
    (if (natv l).2 = false then (0, 3) else if 4611686018427387904 < (natv l).1 then (0, 6) else ((natv l).1, 0))

theorem rnum_rng (l : List Int) : ∀ n : Int, 0 ≤ n → n ≤ 4611686018427387905 → 0 ≤ (rnum l n).1 ∧ (rnum l n).1 ≤ 4611686018427387905 := by
  induction l with
  | nil => intro n h0 h1; exact ⟨h0, h1⟩
  | cons x r ih =>
    intro n h0 h1
    by_cases h : x < 48 ∨ 57 < x
    · rw [rnum_no h]; simp
    · rw [rnum_on h]
      have := capn_rng (d := x - 48) h0 h1 (by omega) (by omega)
      exact ih _ this.1 this.2

theorem numb_rng (l : List Int) : 0 ≤ (numb l).1 ∧ (numb l).1 ≤ 4611686018427387905 := by
  unfold numb
  split
  · exact rnum_rng l 0 (by omega) (by omega)
  · simp

end Go.Proofs.YthancgnmbmempaaDoor
