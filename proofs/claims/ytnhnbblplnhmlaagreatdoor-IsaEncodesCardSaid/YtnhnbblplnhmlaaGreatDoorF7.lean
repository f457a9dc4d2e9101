/- Decimal forms as lists of bytes. No function of a program is named here. -/
import Derived.Test.YtnhnbblplnhmlaaGreatDoorStr
import Derived.Test.YtnhnbblplnhmlaaGreatDoorBelow
import Derived.Test.YtnhnbblplnhmlaaGreatDoorChecked
import Derived.Deep.QuietTactic
import Derived.BigQuiet
import Derived.Outline
import Derived.IntWalk
import Derived.Test.YtnhnbblplnhmlaaGreatDoorFixedB
namespace Go.Proofs.YtnhnbblplnhmlaaGreatDoor
set_option linter.unusedSimpArgs false
open Go.RowKit

/-- The decimal form of a number. -/
def dg (u : Nat) : List Int := if u < 10 then [48 + (u : Int)] else dg (u / 10) ++ [48 + ((u % 10 : Nat) : Int)]
termination_by u
decreasing_by omega

theorem dg_lt {u : Nat} (h : u < 10) : dg u = [48 + (u : Int)] := by rw [dg, if_pos h]
theorem dg_ge {u : Nat} (h : 10 ≤ u) : dg u = dg (u / 10) ++ [48 + ((u % 10 : Nat) : Int)] := by rw [dg, if_neg (by omega)]

theorem dg_rng (u : Nat) : ∀ x ∈ dg u, (48 : Int) ≤ x ∧ x ≤ 57 := by
  induction u using Nat.strongRecOn with
  | _ u ih =>
    intro x hx
    by_cases h : u < 10
    · rw [dg_lt h] at hx
      simp at hx
      omega
    · rw [dg_ge (by omega)] at hx
      rcases List.mem_append.1 hx with hx | hx
      · exact ih (u / 10) (by omega) x hx
      · simp at hx
        omega

theorem dg_pos (u : Nat) : 1 ≤ (dg u).length := by
  by_cases h : u < 10
  · rw [dg_lt h]; simp
  · rw [dg_ge (by omega)]; simp

theorem dg_len (k : Nat) : ∀ u : Nat, u < 10 ^ (k + 1) → (dg u).length ≤ k + 1 := by
  induction k with
  | zero => intro u hu; rw [dg_lt (by simpa using hu)]; simp
  | succ k ih =>
    intro u hu
    by_cases h : u < 10
    · rw [dg_lt h]; simp
    · rw [dg_ge (by omega)]
      have := ih (u / 10) (by
        rw [Nat.pow_succ] at hu
        exact Nat.div_lt_of_lt_mul (by rw [Nat.mul_comm]; exact hu))
      simp only [List.length_append, List.length_singleton]
      omega

theorem dg_len64 (u : Nat) (h : u < 18446744073709551616) : (dg u).length ≤ 20 :=
  dg_len 19 u (by
    have e : (10 : Nat) ^ (19 + 1) = 100000000000000000000 := by decide
    rw [e]; omega)

/-- No leading zero but in '0'. -/
theorem dg_head (u : Nat) (h : 0 < u) : ∃ x r, dg u = x :: r ∧ (49 : Int) ≤ x ∧ x ≤ 57 := by
  induction u using Nat.strongRecOn with
  | _ u ih =>
    by_cases h10 : u < 10
    · exact ⟨48 + u, [], dg_lt h10, by omega, by omega⟩
    · obtain ⟨x, r, e, h1, h2⟩ := ih (u / 10) (by omega) (by omega)
      exact ⟨x, r ++ [48 + ((u % 10 : Nat) : Int)], by rw [dg_ge (by omega), e]; rfl, h1, h2⟩

/-- The decimal form of an int. -/
def fint (n : Int) : List Int := if n < 0 then 45 :: dg (-n).toNat else dg n.toNat

/-- One digit more, up to 2^62 + 1. -/
def capn (n d : Int) : Int := if (4611686018427387905 - d) / 10 < n then 4611686018427387905 else n * 10 + d

/-- The number of some digits behind n, up to 2^62 + 1; whether they are digits. -/
def rnum : List Int → Int → Int × Bool
  | [], n => (n, true)
  | x :: r, n => if x < 48 ∨ 57 < x then (0, false) else rnum r (capn n (x - 48))

theorem rnum_nil (n : Int) : rnum [] n = (n, true) := rfl
theorem rnum_no {x : Int} {r : List Int} {n : Int} (h : x < 48 ∨ 57 < x) : rnum (x :: r) n = (0, false) := by rw [rnum, if_pos h]
theorem rnum_on {x : Int} {r : List Int} {n : Int} (h : ¬ (x < 48 ∨ 57 < x)) : rnum (x :: r) n = rnum r (capn n (x - 48)) := by rw [rnum, if_neg h]

theorem capn_rng {n d : Int} (h0 : 0 ≤ n) (h1 : n ≤ 4611686018427387905) (d0 : 0 ≤ d) (d1 : d ≤ 9) : 0 ≤ capn n d ∧ capn n d ≤ 4611686018427387905 := by
  unfold capn; split <;> omega

/-- The number of a string of digits. -/
def numb (l : List Int) : Int × Bool := if (rnum l 0).2 = true then ((rnum l 0).1, decide (0 < l.length)) else (0, false)

/-- The number of a decimal form without a sign. -/
def natv (l : List Int) : Int × Bool := ((numb l).1, (numb l).2 && (decide (l.length = 1) || decide (l.head? ≠ some 48)))

/-- Parsing an int: it, the error. -/
def pint (l : List Int) : Int × Int :=
  if l.head? = some 45 then
    (if (natv l.tail).2 = false ∨ (natv l.tail).1 = 0 then (0, 3) else if 4611686018427387904 < (natv l.tail).1 then (0, 6) else (-(natv l.tail).1, 0))
  else
    (if (natv l).2 = false then (0, 3) else if 4611686018427387904 < (natv l).1 then (0, 6) else ((natv l).1, 0))

theorem rnum_rng (l : List Int) : ∀ n : Int, 0 ≤ n → n ≤ 4611686018427387905 → 0 ≤ (rnum l n).1 ∧ (rnum l n).1 ≤ 4611686018427387905 := by
  induction l with
  | nil => intro n h0 h1; exact ⟨h0, h1⟩
  | cons x r ih =>
    intro n h0 h1
    by_cases h : x < 48 ∨ 57 < x
    · rw [rnum_no h]; simp
    · rw [rnum_on h]
      have := capn_rng (d := x - 48) h0 h1 (by omega) (by omega)
      exact ih _ this.1 this.2

theorem numb_rng (l : List Int) : 0 ≤ (numb l).1 ∧ (numb l).1 ≤ 4611686018427387905 := by
  unfold numb
  split
  · exact rnum_rng l 0 (by omega) (by omega)
  · simp

end Go.Proofs.YtnhnbblplnhmlaaGreatDoor

/- What digits, FormatInt, number, natural and ParseInt of the reference return. -/
namespace Go.Proofs.YtnhnbblplnhmlaaGreatDoor
open Go.RowKit Go.Sort

/-- A literal of one byte as a string. -/
theorem run_convert_one (W : World) (x : Int) : (convert 32 9 (.slice (some ⟨W.heap.size, 0, none⟩) 1 1)).run Tryz.prog (W.alloc (.cells #[.int .u8 x] 5)) = .ok (.string (strOfNums [x])) (W.alloc (.cells #[.int .u8 x] 5)) := by
  refine run_convert_bytes_arg (W.alloc (.cells #[.int .u8 x] 5)) 32 5 Tryz.underlying32 Tryz.underlying5 W.heap.size 0 1 1 [x] rfl (fun i hi => ?_) 9 Tryz.underlying9
  obtain rfl : i = 0 := by omega
  exact box_cell W #[.int .u8 x] 5 0 _ rfl

theorem ret_str {a b : ByteArray} (h : a = b) : Ending.returned (.string a) = .returned (.string b) := by rw [h]

theorem dg_step {u : Nat} {s ds : ByteArray} (h : Hid (dg u ++ strL s = strL ds)) (hu : 10 ≤ u) : dg (u / 10) ++ strL (strOfNums [48 + ((u % 10 : Nat) : Int)] ++ s) = strL ds := by
  rw [← h.out, dg_ge hu, strL_append, strL_of (by intro y hy; simp at hy; omega), List.append_assoc]

theorem dg_end {u : Nat} {s ds : ByteArray} (h : Hid (dg u ++ strL s = strL ds)) (hu : u < 10) : strOfNums [48 + (u : Int)] ++ s = ds := by
  refine str_ext ?_
  rw [← h.out, dg_lt hu, strL_append, strL_of (by intro y hy; simp at hy; omega)]

theorem dg_room {u : Nat} {s ds : ByteArray} (h : Hid (dg u ++ strL s = strL ds)) (hd : ds.size ≤ 20) : s.size ≤ 20 := by
  have := congrArg List.length h.out
  rw [List.length_append, strL_len, strL_len] at this
  omega

theorem fint_rng (n : Int) : ∀ x ∈ fint n, (0 : Int) ≤ x ∧ x ≤ 255 := by
  intro x hx
  unfold fint at hx
  split at hx
  · rcases List.mem_cons.1 hx with rfl | hx
    · omega
    · have := dg_rng _ x hx; omega
  · have := dg_rng _ x hx; omega

theorem ret_ib {a a' : Int} {b b' : Bool} (h1 : a = a') (h2 : b = b') : Ending.returned (.tuple #[.int .i64 a, .bool b]) = .returned (.tuple #[.int .i64 a', .bool b']) := by rw [h1, h2]

theorem num_at {s : ByteArray} {k : Nat} {n V : Int} {ok : Bool} (h : Hid (rnum ((strL s).drop k) n = (V, ok))) (hk : k < s.size) : rnum (((s[k]).toNat : Int) :: (strL s).drop (k + 1)) n = (V, ok) := by
  rw [← strL_drop s k hk]; exact h.out

end Go.Proofs.YtnhnbblplnhmlaaGreatDoor

/- What natural, ParseInt, power, point, letter, IsName and FormatHash of the reference return. -/
namespace Go.Proofs.YtnhnbblplnhmlaaGreatDoor
open Go.RowKit Go.Sort

theorem head_at (s : ByteArray) (h : 0 < s.size) : (strL s).head? = some ((s[0]).toNat : Int) := by
  rw [List.head?_eq_getElem?]
  exact strL_at s 0 h

theorem head_none (s : ByteArray) (h : s.size = 0) : strL s = [] := List.eq_nil_of_length_eq_zero (by rw [strL_len]; exact h)

theorem numb_empty {s : ByteArray} {V : Int} (h : numb (strL s) = (V, true)) : 0 < s.size := by
  unfold numb at h
  split at h
  · simp only [Prod.mk.injEq, decide_eq_true_eq, strL_len] at h
    exact h.2
  · simp at h

end Go.Proofs.YtnhnbblplnhmlaaGreatDoor

/- What ParseInt, power, point, letter, IsName and FormatHash of the reference return. -/
namespace Go.Proofs.YtnhnbblplnhmlaaGreatDoor
open Go.RowKit Go.Sort

theorem ret_ii {a a' b b' : Int} (h1 : a = a') (h2 : b = b') : Ending.returned (.tuple #[.int .i64 a, .int .i64 b]) = .returned (.tuple #[.int .i64 a', .int .i64 b']) := by rw [h1, h2]

theorem natv_rng (l : List Int) : 0 ≤ (natv l).1 ∧ (natv l).1 ≤ 4611686018427387905 := numb_rng l

theorem tail_str (s : ByteArray) : strL (s.extract 1 s.size) = (strL s).tail := by
  rw [strL_extract, List.take_of_length_le (by rw [List.length_drop, strL_len]; omega), List.drop_one]

end Go.Proofs.YtnhnbblplnhmlaaGreatDoor

/- What power, point, letter, IsName and FormatHash of the reference return. -/
namespace Go.Proofs.YtnhnbblplnhmlaaGreatDoor
open Go.RowKit Go.Sort

/-- 10^k. -/
def p10 (k : Nat) : Int := 10 ^ k
theorem p10_succ (k : Nat) : p10 (k + 1) = p10 k * 10 := Int.pow_succ 10 k
theorem p10_nat (k : Nat) : p10 k = ((10 ^ k : Nat) : Int) := by unfold p10; simp
theorem p10_pos (k : Nat) : 1 ≤ p10 k := by
  rw [p10_nat]; have := Nat.one_le_pow k 10 (by omega); omega
theorem p10_le {i j : Nat} (h : i ≤ j) : p10 i ≤ p10 j := by
  rw [p10_nat, p10_nat]; have := Nat.pow_le_pow_right (n := 10) (by omega) h; omega

/-- The index of the first point, or the length. -/
def pnt (l : List Int) : Nat := (l.takeWhile (· ≠ 46)).length

theorem pnt_le (l : List Int) : pnt l ≤ l.length := (List.takeWhile_sublist _).length_le

theorem pnt_on {l : List Int} {k : Nat} {x : Int} (h : pnt l = k + pnt (l.drop k)) (hx : l[k]? = some x) (hn : x ≠ 46) : pnt l = (k + 1) + pnt (l.drop (k + 1)) := by
  rw [h, list_cut hx]
  unfold pnt
  rw [List.takeWhile_cons_of_pos (by simpa using hn), List.length_cons]
  omega
where
  list_cut {l : List Int} {k : Nat} {x : Int} (hx : l[k]? = some x) : l.drop k = x :: l.drop (k + 1) := by
    have hl : k < l.length := by
      rcases Nat.lt_or_ge k l.length with h' | h'
      · exact h'
      · rw [List.getElem?_eq_none h'] at hx; cases hx
    rw [List.drop_eq_getElem_cons hl]
    rw [List.getElem?_eq_getElem hl] at hx
    injection hx with hx
    rw [hx]

theorem pnt_here {l : List Int} {k : Nat} (h : pnt l = k + pnt (l.drop k)) (hx : l[k]? = some 46) : pnt l = k := by
  rw [h, pnt_on.list_cut hx]
  unfold pnt
  rw [List.takeWhile_cons_of_neg (by simp)]
  rfl

/-- Is it a letter or an underscore? -/
def letB (x : Int) : Bool := decide (97 ≤ x ∧ x ≤ 122) || decide (65 ≤ x ∧ x ≤ 90) || decide (x = 95)

theorem ret_bool' {a b : Bool} (h : a = b) : Ending.returned (.bool a) = .returned (.bool b) := by rw [h]

end Go.Proofs.YtnhnbblplnhmlaaGreatDoor

/- What IsName and FormatHash of the reference return. -/
namespace Go.Proofs.YtnhnbblplnhmlaaGreatDoor
open Go.RowKit Go.Sort

/-- A later byte of a name. -/
def latB (y : Int) : Bool := letB y || (decide (48 ≤ y) && decide (y ≤ 57))

/-- Is it a name? -/
def namB (l : List Int) : Bool := decide (1 ≤ l.length) && decide (l.length ≤ 16) && letB (l.headD 0) && l.tail.all latB

theorem all_on {l : List Int} {k : Nat} {x : Int} {b : Bool} (h : Hid ((l.drop k).all latB = b)) (hx : l[k]? = some x) : (latB x && (l.drop (k + 1)).all latB) = b := by
  rw [← h.out, pnt_on.list_cut hx, List.all_cons]

/-- A hexadecimal digit, and so many of them. -/
def hexd (x : Nat) : Int := if x < 10 then 48 + x else 87 + x
def hexs : Nat → Nat → List Int
  | 0, _ => []
  | k + 1, u => hexs k (u / 16) ++ [hexd (u % 16)]

theorem hexd_rng (x : Nat) (h : x < 16) : 0 ≤ hexd x ∧ hexd x ≤ 255 := by unfold hexd; split <;> omega

theorem hexs_on {k u : Nat} {s ds : ByteArray} (h : Hid (hexs (k + 1) u ++ strL s = strL ds)) : hexs k (u / 16) ++ strL (strOfNums [hexd (u % 16)] ++ s) = strL ds := by
  have hx := hexd_rng (u % 16) (by omega)
  rw [← h.out, hexs, strL_append, strL_of (by intro y hy; simp at hy; omega), List.append_assoc]

theorem hexs_len : ∀ k u : Nat, (hexs k u).length = k
  | 0, _ => rfl
  | k + 1, u => by rw [hexs, List.length_append, hexs_len k]; rfl

set_option maxRecDepth 100000 in
theorem run_index_hex (W : World) (u : Nat) : (Instr.index 9 (.string ⟨#[48, 49, 50, 51, 52, 53, 54, 55, 56, 57, 97, 98, 99, 100, 101, 102]⟩) (.int .u64 ((u : Int) % 16))).run Tryz.prog W = .ok (.int .u8 (hexd (u % 16))) W := by
  have hu : ∀ j : Nat, u % 16 = j → ((u : Int) % 16) = (j : Int) := by intro j hj; omega
  have hc : u % 16 = 0 ∨ u % 16 = 1 ∨ u % 16 = 2 ∨ u % 16 = 3 ∨ u % 16 = 4 ∨ u % 16 = 5 ∨ u % 16 = 6 ∨ u % 16 = 7 ∨ u % 16 = 8 ∨ u % 16 = 9 ∨ u % 16 = 10 ∨ u % 16 = 11 ∨ u % 16 = 12 ∨ u % 16 = 13 ∨ u % 16 = 14 ∨ u % 16 = 15 := by omega
  rcases hc with h | h | h | h | h | h | h | h | h | h | h | h | h | h | h | h <;> (rw [hu _ h, h]; rfl)

end Go.Proofs.YtnhnbblplnhmlaaGreatDoor

/- What FormatFixed of the reference returns. -/
namespace Go.Proofs.YtnhnbblplnhmlaaGreatDoor
open Go.RowKit Go.Sort

/-- The k digits of the remainder r; whether they will do. -/
def fdig (r : Int) (k : Nat) : Int := rda (r * p10 k) 65536
def kok (r : Int) (k : Nat) : Bool := decide (fdig r k < p10 k) && decide (rda (fdig r k * 65536) (p10 k) = r)
/-- The first number of digits from k on that will do, at most n further on. -/
def kfr (r : Int) : Nat → Nat → Nat
  | 0, k => k
  | n + 1, k => if kok r k = true then k else kfr r n (k + 1)
def kfirst (r : Int) : Nat := kfr r 4 1
/-- The digits behind the point. -/
def frac (r : Int) : List Int := (dg (p10 (kfirst r) + fdig r (kfirst r)).toNat).tail
/-- The decimal form of a fixed-point number. -/
def ffix (x : Int) : List Int :=
  if x < -536870911 ∨ 536870911 < x then [] else (if x < 0 then [45] else []) ++ dg (x.natAbs / 65536) ++ [46] ++ frac ((x.natAbs % 65536 : Nat) : Int)

theorem p10_1 : p10 1 = 10 := by decide
theorem p10_2 : p10 2 = 100 := by decide
theorem p10_3 : p10 3 = 1000 := by decide
theorem p10_4 : p10 4 = 10000 := by decide
theorem p10_5 : p10 5 = 100000 := by decide

theorem p10_small {k : Nat} (h1 : 1 ≤ k) (h5 : k ≤ 5) : p10 k = 10 ∨ p10 k = 100 ∨ p10 k = 1000 ∨ p10 k = 10000 ∨ p10 k = 100000 := by
  have : k = 1 ∨ k = 2 ∨ k = 3 ∨ k = 4 ∨ k = 5 := by omega
  rcases this with rfl | rfl | rfl | rfl | rfl
  · exact .inl p10_1
  · exact .inr (.inl p10_2)
  · exact .inr (.inr (.inl p10_3))
  · exact .inr (.inr (.inr (.inl p10_4)))
  · exact .inr (.inr (.inr (.inr p10_5)))

theorem fdig_is {r : Int} {k : Nat} (h1 : 1 ≤ k) (h5 : k ≤ 5) (r0 : 0 ≤ r) (r1 : r ≤ 65535) : fdig r k = (2 * (r * p10 k) + 65536) / 131072 ∧ 0 ≤ fdig r k ∧ fdig r k ≤ p10 k := by
  unfold fdig
  rcases p10_small h1 h5 with e | e | e | e | e <;> (rw [e, rda_in _ _ (by omega) (by omega) (by omega) (by omega), rdv, if_pos (by omega)]; omega)

/-- Five digits always do. -/
theorem kok_5 {r : Int} (r0 : 0 ≤ r) (r1 : r ≤ 65535) : kok r 5 = true := by
  obtain ⟨h, h0, h1⟩ := fdig_is (k := 5) (by omega) (by omega) r0 r1
  rw [p10_5] at h h1
  unfold kok
  rw [p10_5, rda_in _ _ (by omega) (by omega) (by omega) (by omega), rdv, if_pos (by omega)]
  simp only [Bool.and_eq_true, decide_eq_true_eq]
  omega

theorem kfr_ok {r : Int} (r0 : 0 ≤ r) (r1 : r ≤ 65535) : ∀ n k : Nat, n + k = 5 → 1 ≤ k → kok r (kfr r n k) = true ∧ k ≤ kfr r n k ∧ kfr r n k ≤ 5
  | 0, k, h, _ => by
    obtain rfl : k = 5 := by omega
    exact ⟨kok_5 r0 r1, Nat.le_refl _, Nat.le_refl _⟩
  | n + 1, k, h, hk => by
    unfold kfr
    by_cases ho : kok r k = true
    · rw [if_pos ho]; exact ⟨ho, Nat.le_refl _, by omega⟩
    · rw [if_neg ho]
      have := kfr_ok r0 r1 n (k + 1) (by omega) (by omega)
      exact ⟨this.1, by omega, this.2.2⟩

theorem kfirst_ok {r : Int} (r0 : 0 ≤ r) (r1 : r ≤ 65535) : kok r (kfirst r) = true ∧ 1 ≤ kfirst r ∧ kfirst r ≤ 5 := kfr_ok r0 r1 4 1 rfl (Nat.le_refl _)

theorem dg_str (u : Nat) : ∃ ds, strOfNums (dg u) = ds ∧ strL ds = dg u := ⟨_, rfl, strL_of (x := dg u) fun y hy => by have := dg_rng u y hy; omega⟩

theorem kfr_on {r : Int} {k K : Nat} (h : Hid (kfr r (5 - k) k = K)) (h5 : k < 5) (ho : kok r k = false) : kfr r (5 - (k + 1)) (k + 1) = K := by
  have e : 5 - k = (5 - (k + 1)) + 1 := by omega
  rw [← h.out, e, kfr, if_neg (by simp [ho])]

theorem kfr_here {r : Int} {k K : Nat} (h : Hid (kfr r (5 - k) k = K)) (h5 : k ≤ 5) (ho : kok r k = true) : k = K := by
  rw [← h.out]
  by_cases e : k = 5
  · subst e; rfl
  · have e : 5 - k = (5 - (k + 1)) + 1 := by omega
    rw [e, kfr, if_pos ho]

/-- What lies behind the loop's round that will do. -/
theorem fix_end {r P f : Int} {k K : Nat} {d2 : ByteArray} (hK : k = K) (hP : p10 k = P) (hf : fdig r k = f) (hd : strL d2 = dg (P + f).toNat) : strL (d2.extract 1 d2.size) = (dg (p10 K + fdig r K).toNat).tail := by
  subst hK
  rw [strL_extract, List.take_of_length_le (by rw [List.length_drop, strL_len]; omega), List.drop_one, hd, hP, hf]

end Go.Proofs.YtnhnbblplnhmlaaGreatDoor

/- What ParseFixed of the reference returns. -/
namespace Go.Proofs.YtnhnbblplnhmlaaGreatDoor
open Go.RowKit Go.Sort

/-- The fixed-point number of a decimal form behind its sign; the error. -/
def pfx (neg : Bool) (L : List Int) : Int × Int :=
  if pnt L = L.length then (0, 3)
  else if (natv (L.take (pnt L))).2 = false ∨ (numb (L.drop (pnt L + 1))).2 = false ∨ 5 < L.length - pnt L - 1 then (0, 3)
  else if 536870911 < (natv (L.take (pnt L))).1 then (0, 6)
  else if neg = true ∧ (natv (L.take (pnt L))).1 * 65536 + rda ((numb (L.drop (pnt L + 1))).1 * 65536) (p10 (L.length - pnt L - 1)) = 0 then (0, 3)
  else if 536870911 < (natv (L.take (pnt L))).1 * 65536 + rda ((numb (L.drop (pnt L + 1))).1 * 65536) (p10 (L.length - pnt L - 1)) then (0, 6)
  else if neg = true then (-((natv (L.take (pnt L))).1 * 65536 + rda ((numb (L.drop (pnt L + 1))).1 * 65536) (p10 (L.length - pnt L - 1))), 0)
  else ((natv (L.take (pnt L))).1 * 65536 + rda ((numb (L.drop (pnt L + 1))).1 * 65536) (p10 (L.length - pnt L - 1)), 0)
/-- Parsing a fixed-point number: it, the error. -/
def pfix (L : List Int) : Int × Int := if L.head? = some 45 then pfx true L.tail else pfx false L

theorem capn_le {n d : Int} : capn n d ≤ n * 10 + d := by
  unfold capn; split <;> omega

theorem rnum_room (l : List Int) : ∀ n : Int, 0 ≤ n → n ≤ 4611686018427387905 → (rnum l n).2 = true → (rnum l n).1 + 1 ≤ (n + 1) * p10 l.length := by
  induction l with
  | nil => intro n h0 h1 _; simp [rnum_nil, p10]
  | cons x r ih =>
    intro n h0 h1 h2
    by_cases h : x < 48 ∨ 57 < x
    · rw [rnum_no h] at h2; simp at h2
    · rw [rnum_on h] at h2 ⊢
      have hc := capn_rng (d := x - 48) h0 h1 (by omega) (by omega)
      have hl := capn_le (n := n) (d := x - 48)
      have := ih _ hc.1 hc.2 h2
      rw [List.length_cons, p10_succ, Int.mul_comm (p10 _) 10, ← Int.mul_assoc]
      have hp := p10_pos r.length
      have : (capn n (x - 48) + 1) * p10 r.length ≤ ((n + 1) * 10) * p10 r.length := Int.mul_le_mul_of_nonneg_right (by omega) (by omega)
      omega

theorem numb_room {l : List Int} {f : Int} (h : numb l = (f, true)) : 0 ≤ f ∧ f + 1 ≤ p10 l.length ∧ 0 < l.length := by
  have hr := numb_rng l
  rw [h] at hr
  unfold numb at h
  by_cases h2 : (rnum l 0).2 = true
  · rw [if_pos h2] at h
    simp only [Prod.mk.injEq, decide_eq_true_eq] at h
    have := rnum_room l 0 (by omega) (by omega) h2
    simp only at hr
    exact ⟨hr.1, by rw [← h.1]; omega, h.2⟩
  · rw [if_neg h2] at h
    simp at h

theorem pfx_q {f : Int} {k : Nat} (f0 : 0 ≤ f) (f1 : f + 1 ≤ p10 k) (h1 : 1 ≤ k) (h5 : k ≤ 5) : 0 ≤ rda (f * 65536) (p10 k) ∧ rda (f * 65536) (p10 k) ≤ 65536 ∧ f ≤ 99999 := by
  rcases p10_small h1 h5 with e | e | e | e | e <;> (rw [e] at f1 ⊢; rw [rda_in _ _ (by omega) (by omega) (by omega) (by omega), rdv, if_pos (by omega)]; omega)

/-- The ways of it. -/
theorem pfx_ways {neg : Bool} {L : List Int} {v er n f : Int} {ok is : Bool} {a : Nat} (h : pfx neg L = (v, er)) (ha : pnt L = a) (hn : natv (L.take a) = (n, ok)) (hf : numb (L.drop (a + 1)) = (f, is)) :
    (a = L.length ∧ v = 0 ∧ er = 3) ∨
    (a < L.length ∧ ok = false ∧ v = 0 ∧ er = 3) ∨
    (a < L.length ∧ ok = true ∧ is = false ∧ v = 0 ∧ er = 3) ∨
    (a < L.length ∧ ok = true ∧ is = true ∧ a + 6 < L.length ∧ v = 0 ∧ er = 3) ∨
    (a < L.length ∧ ok = true ∧ is = true ∧ L.length ≤ a + 6 ∧ 536870911 < n ∧ v = 0 ∧ er = 6) ∨
    (∃ (k : Nat) (q : Int), a + 1 + k = L.length ∧ 1 ≤ k ∧ k ≤ 5 ∧ ok = true ∧ is = true ∧ 0 ≤ n ∧ n ≤ 536870911 ∧ 0 ≤ f ∧ f ≤ 99999 ∧ rda (f * 65536) (p10 k) = q ∧ 0 ≤ q ∧ q ≤ 65536 ∧
      ((neg = true ∧ n * 65536 + q = 0 ∧ v = 0 ∧ er = 3) ∨ ((neg = true → 0 < n * 65536 + q) ∧ 536870911 < n * 65536 + q ∧ v = 0 ∧ er = 6) ∨
        (neg = true ∧ 0 < n * 65536 + q ∧ n * 65536 + q ≤ 536870911 ∧ v = -(n * 65536 + q) ∧ er = 0) ∨ (neg = false ∧ n * 65536 + q ≤ 536870911 ∧ v = n * 65536 + q ∧ er = 0))) := by
  have hle := pnt_le L
  have hnr := natv_rng (L.take a)
  unfold pfx at h
  rw [ha] at h hle
  rw [hn, hf] at h
  rw [hn] at hnr
  simp only at h hnr
  by_cases c1 : a = L.length
  · rw [if_pos c1] at h
    simp only [Prod.mk.injEq] at h
    exact .inl ⟨c1, h.1.symm, h.2.symm⟩
  rw [if_neg c1] at h
  by_cases c2 : ok = false ∨ is = false ∨ 5 < L.length - a - 1
  · rw [if_pos c2] at h
    simp only [Prod.mk.injEq] at h
    cases ok
    · exact .inr (.inl ⟨by omega, rfl, h.1.symm, h.2.symm⟩)
    · cases is
      · exact .inr (.inr (.inl ⟨by omega, rfl, rfl, h.1.symm, h.2.symm⟩))
      · simp only [Bool.true_eq_false, false_or] at c2
        exact .inr (.inr (.inr (.inl ⟨by omega, rfl, rfl, by omega, h.1.symm, h.2.symm⟩)))
  rw [if_neg c2] at h
  obtain ⟨rfl, rfl, hk⟩ : ok = true ∧ is = true ∧ ¬ 5 < L.length - a - 1 := by
    cases ok <;> cases is <;> simp_all
  clear c2
  by_cases c3 : 536870911 < n
  · rw [if_pos c3] at h
    simp only [Prod.mk.injEq] at h
    exact .inr (.inr (.inr (.inr (.inl ⟨by omega, rfl, rfl, by omega, c3, h.1.symm, h.2.symm⟩))))
  rw [if_neg c3] at h
  have hr := numb_room hf
  rw [List.length_drop] at hr
  obtain ⟨k, hkk⟩ : ∃ k, L.length - a - 1 = k := ⟨_, rfl⟩
  rw [show L.length - (a + 1) = k by omega] at hr
  rw [hkk] at h hk
  have hq := pfx_q hr.1 hr.2.1 (by omega) (by omega)
  obtain ⟨q, e⟩ : ∃ q, rda (f * 65536) (p10 k) = q := ⟨_, rfl⟩
  rw [e] at h hq
  refine .inr (.inr (.inr (.inr (.inr ⟨k, q, by omega, by omega, by omega, rfl, rfl, hnr.1, by omega, hr.1, hq.2.2, e, hq.1, hq.2.1, ?_⟩))))
  cases neg
  · simp only [Bool.false_eq_true, false_and, if_false] at h
    split at h <;> simp only [Prod.mk.injEq] at h
    · exact .inr (.inl ⟨by simp, by omega, h.1.symm, h.2.symm⟩)
    · exact .inr (.inr (.inr ⟨rfl, by omega, h.1.symm, h.2.symm⟩))
  · simp only [true_and, if_true] at h
    split at h
    · simp only [Prod.mk.injEq] at h
      exact .inl ⟨rfl, by omega, h.1.symm, h.2.symm⟩
    · split at h <;> simp only [Prod.mk.injEq] at h
      · exact .inr (.inl ⟨fun _ => by omega, by omega, h.1.symm, h.2.symm⟩)
      · exact .inr (.inr (.inl ⟨rfl, by omega, by omega, h.1.symm, h.2.symm⟩))

end Go.Proofs.YtnhnbblplnhmlaaGreatDoor
