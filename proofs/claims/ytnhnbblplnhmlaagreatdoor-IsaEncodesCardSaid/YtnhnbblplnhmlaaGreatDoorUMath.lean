/- The numbers of the instruction set: classes of opcodes, what they compute, programs as lists, their checks. No function of a program is named here. -/
import Derived.Test.YtnhnbblplnhmlaaGreatDoorMRef2
import Derived.Test.YtnhnbblplnhmlaaGreatDoorPow
import Derived.Test.YtnhnbblplnhmlaaGreatDoorMath
namespace Go.Proofs.YtnhnbblplnhmlaaGreatDoor
set_option linter.unusedSimpArgs false
open Go.RowKit

/-- The class of an opcode. -/
def cl (o : Int) : Int :=
  if o = 1 then 1 else if o = 2 then 2 else if 23 ≤ o ∧ o ≤ 35 then 2 else if 3 ≤ o ∧ o ≤ 22 then 3 else if o = 36 then 4
  else if o = 37 then 5 else if o = 38 then 5 else if o = 39 then 6 else if o = 40 then 7 else if o = 41 then 7 else if o = 42 then 8
  else if o = 43 then 9 else if o = 46 then 10 else 0

/-- The fields that a class uses. -/
def fD (k : Int) : Bool := k == 1 || k == 2 || k == 3 || k == 4 || k == 5 || k == 7 || k == 8
def fA (k : Int) : Bool := k == 2 || k == 3 || k == 4 || k == 6 || k == 7 || k == 8 || k == 9
def fB (k : Int) : Bool := k == 3 || k == 4 || k == 7
def fC (k : Int) : Bool := k == 4 || k == 7
def fI (k : Int) : Bool := k == 1 || k == 5 || k == 6 || k == 7 || k == 8 || k == 10

theorem cl_ways (o : Int) : cl o = 0 ∨ cl o = 1 ∨ cl o = 2 ∨ cl o = 3 ∨ cl o = 4 ∨ cl o = 5 ∨ cl o = 6 ∨ cl o = 7 ∨ cl o = 8 ∨ cl o = 9 ∨ cl o = 10 := by
  unfold cl
  by_cases h0 : o = 1
  · rw [if_pos h0]; decide
  rw [if_neg h0]
  by_cases h1 : o = 2
  · rw [if_pos h1]; decide
  rw [if_neg h1]
  by_cases h2 : 23 ≤ o ∧ o ≤ 35
  · rw [if_pos h2]; decide
  rw [if_neg h2]
  by_cases h3 : 3 ≤ o ∧ o ≤ 22
  · rw [if_pos h3]; decide
  rw [if_neg h3]
  by_cases h4 : o = 36
  · rw [if_pos h4]; decide
  rw [if_neg h4]
  by_cases h5 : o = 37
  · rw [if_pos h5]; decide
  rw [if_neg h5]
  by_cases h6 : o = 38
  · rw [if_pos h6]; decide
  rw [if_neg h6]
  by_cases h7 : o = 39
  · rw [if_pos h7]; decide
  rw [if_neg h7]
  by_cases h8 : o = 40
  · rw [if_pos h8]; decide
  rw [if_neg h8]
  by_cases h9 : o = 41
  · rw [if_pos h9]; decide
  rw [if_neg h9]
  by_cases h10 : o = 42
  · rw [if_pos h10]; decide
  rw [if_neg h10]
  by_cases h11 : o = 43
  · rw [if_pos h11]; decide
  rw [if_neg h11]
  by_cases h12 : o = 46
  · rw [if_pos h12]; decide
  rw [if_neg h12]
  decide

theorem cl_un' {o : Int} (h : cl o = 2) : o = 2 ∨ 23 ≤ o ∧ o ≤ 35 := by
  by_cases h1 : o = 2
  · exact .inl h1
  · refine .inr (Classical.byContradiction fun h2 => ?_)
    unfold cl at h
    grind (splits := 40)
theorem cl_bi' {o : Int} (h : cl o = 3) : 3 ≤ o ∧ o ≤ 22 := by
  refine Classical.byContradiction fun h2 => ?_
  unfold cl at h
  grind (splits := 40)

/-- An opcode that exists. -/
def okO (o : Int) : Bool := decide (1 ≤ o) && decide (o ≤ 52)

theorem cl_low {o : Int} (h : o < 1) : cl o = 0 := by unfold cl; rw [if_neg (by omega), if_neg (by omega), if_neg (by omega), if_neg (by omega), if_neg (by omega), if_neg (by omega), if_neg (by omega), if_neg (by omega), if_neg (by omega), if_neg (by omega), if_neg (by omega), if_neg (by omega), if_neg (by omega)]
theorem cl_high {o : Int} (h : 52 < o) : cl o = 0 := by unfold cl; rw [if_neg (by omega), if_neg (by omega), if_neg (by omega), if_neg (by omega), if_neg (by omega), if_neg (by omega), if_neg (by omega), if_neg (by omega), if_neg (by omega), if_neg (by omega), if_neg (by omega), if_neg (by omega), if_neg (by omega)]
theorem cl_un {o : Int} (h1 : 23 ≤ o) (h2 : o ≤ 35) : cl o = 2 := by unfold cl; rw [if_neg (by omega), if_neg (by omega), if_pos ⟨h1, h2⟩]
theorem cl_bi {o : Int} (h1 : 3 ≤ o) (h2 : o ≤ 22) : cl o = 3 := by unfold cl; rw [if_neg (by omega), if_neg (by omega), if_neg (by omega), if_pos ⟨h1, h2⟩]
theorem cl_rest {o : Int} (h1 : 44 ≤ o) (h2 : o ≠ 46) : cl o = 0 := by unfold cl; rw [if_neg (by omega), if_neg (by omega), if_neg (by omega), if_neg (by omega), if_neg (by omega), if_neg (by omega), if_neg (by omega), if_neg (by omega), if_neg (by omega), if_neg (by omega), if_neg (by omega), if_neg (by omega), if_neg (by omega)]

/-- What the opcodes compute. -/
def tru (b : Bool) : Int := if b then 1 else 0
def absv (a : Int) : Int := if a < 0 then subv 0 a else sat a
def abi (a : Int) : Int := if a < 0 then -a else a
def shf (b : Int) : Int := b % 32
def divi (a b : Int) : Int := if b = 0 then 0 else wrapv (a.tdiv b)
def modi (a b : Int) : Int := if b = 0 then 0 else a.tmod b
def unv (o a : Int) : Int :=
  if o = 23 then absv a else if o = 24 then wrapv (abi (wrapv a)) else if o = 25 then subv 0 a else if o = 26 then wrapv (-wrapv a)
  else if o = 27 then -wrapv a - 1 else if o = 28 then tru (a == 0) else if o = 29 then floorv a else if o = 30 then fractv a else if o = 31 then sqrtv a
  else if o = 32 then decv 5 10 (encv 5 10 true a) else if o = 33 then sat (wrapv a * 65536) else if o = 34 then sat a / 65536 else if o = 35 then tru (a != 0) else a
def inv (o a b : Int) : Int :=
  if o = 7 then wrapv (a + b) else if o = 8 then wrapv (a - b) else if o = 9 then wrapv (a * b) else if o = 10 then divi a b else if o = 11 then modi a b
  else if o = 12 then bits .and .i64 a b else if o = 13 then bits .or .i64 a b else if o = 14 then bits .xor .i64 a b
  else if o = 15 then wrapv (a * 2 ^ (shf b).toNat) else a / 2 ^ (shf b).toNat
def biv (o a b : Int) : Int :=
  if o = 3 then addv a b else if o = 4 then subv a b else if o = 5 then mulv a b else if o = 6 then divv a b
  else if o = 17 then tru (decide (a < b)) else if o = 18 then tru (decide (a ≤ b)) else if o = 19 then tru (a == b) else if o = 20 then tru (a != b)
  else if o = 21 then min a b else if o = 22 then max a b else inv o (wrapv a) (wrapv b)
def comp (o a b c i : Int) : Int :=
  if cl o = 1 then i else if cl o = 2 then unv o a else if cl o = 3 then biv o a b else if cl o = 4 then (if a = 0 then c else b) else 0

theorem wrapv_rng (x : Int) : -2147483648 ≤ wrapv x ∧ wrapv x ≤ 2147483647 := by unfold wrapv; omega
theorem wrapv_id {x : Int} (h1 : -2147483648 ≤ x) (h2 : x ≤ 2147483647) : wrapv x = x := by unfold wrapv; omega

/-- An instruction. -/
structure In where
  o : Int
  d : Int
  a : Int
  b : Int
  c : Int
  i : Int

theorem In.eq {x y : In} (h0 : x.o = y.o) (h1 : x.d = y.d) (h2 : x.a = y.a) (h3 : x.b = y.b) (h4 : x.c = y.c) (h5 : x.i = y.i) : x = y := by
  cases x; cases y; simp_all

/-- All numbers are of 64 bits. -/
def In.wf (x : In) : Prop := (-9223372036854775808 ≤ x.o ∧ x.o ≤ 9223372036854775807) ∧ (-9223372036854775808 ≤ x.d ∧ x.d ≤ 9223372036854775807) ∧ (-9223372036854775808 ≤ x.a ∧ x.a ≤ 9223372036854775807) ∧ (-9223372036854775808 ≤ x.b ∧ x.b ≤ 9223372036854775807) ∧ (-9223372036854775808 ≤ x.c ∧ x.c ≤ 9223372036854775807) ∧ (-9223372036854775808 ≤ x.i ∧ x.i ≤ 9223372036854775807)

def inEq (x y : In) : Bool := x.o == y.o && x.d == y.d && x.a == y.a && x.b == y.b && x.c == y.c && x.i == y.i

def insEq : List In → List In → Bool
  | [], [] => true
  | x :: r, y :: s => inEq x y && insEq r s
  | _, _ => false

theorem inEq_refl (x : In) : inEq x x = true := by simp [inEq]
theorem inEq_iff (x y : In) : inEq x y = true ↔ x = y := by
  constructor
  · intro h
    simp only [inEq, Bool.and_eq_true, beq_iff_eq] at h
    obtain ⟨⟨⟨⟨⟨h0, h1⟩, h2⟩, h3⟩, h4⟩, h5⟩ := h
    exact In.eq h0 h1 h2 h3 h4 h5
  · rintro rfl; exact inEq_refl x
theorem insEq_iff : ∀ (l m : List In), insEq l m = true ↔ l = m
  | [], [] => by simp [insEq]
  | x :: r, [] => by simp [insEq]
  | [], y :: s => by simp [insEq]
  | x :: r, y :: s => by rw [insEq, Bool.and_eq_true, inEq_iff, insEq_iff r s, List.cons.injEq]

/-- A program: stage, registers, inputs, outputs, uniforms, textures, buffers; instructions. -/
structure Pr where
  st : Int
  rg : Int
  ip : Int
  ou : Int
  un : Int
  tx : Int
  bf : Int
  cd : List In

def hdEq (p q : Pr) : Bool := p.st == q.st && p.rg == q.rg && p.ip == q.ip && p.ou == q.ou && p.un == q.un && p.tx == q.tx && p.bf == q.bf
def prEq (p q : Pr) : Bool := hdEq p q && insEq p.cd q.cd
theorem prEq_refl (p : Pr) : prEq p p = true := by simp [prEq, hdEq, (insEq_iff _ _).2]
theorem Pr.eq {p q : Pr} (h : hdEq p q = true) (hc : p.cd = q.cd) : p = q := by
  simp only [hdEq, Bool.and_eq_true, beq_iff_eq] at h
  cases p; cases q; simp_all
theorem prEq_iff (p q : Pr) : prEq p q = true ↔ p = q := by
  constructor
  · intro h
    simp only [prEq, Bool.and_eq_true] at h
    exact Pr.eq h.1 ((insEq_iff _ _).1 h.2)
  · rintro rfl; exact prEq_refl p

/-- A number within a range. -/
def wth (n lo hi : Int) : Bool := decide (lo ≤ n) && decide (n ≤ hi)

/-- The fields that the opcode does not use are 0. -/
def only (x : In) : Bool := (fD (cl x.o) || x.d == 0) && (fA (cl x.o) || x.a == 0) && (fB (cl x.o) || x.b == 0) && (fC (cl x.o) || x.c == 0) && (fI (cl x.o) || x.i == 0)

/-- The registers that the instruction uses exist. -/
def regs (n : Int) (x : In) : Bool := (!fD (cl x.o) || wth x.d 0 (n - 1)) && (!fA (cl x.o) || wth x.a 0 (n - 1)) && (!fB (cl x.o) || wth x.b 0 (n - 1)) && (!fC (cl x.o) || wth x.c 0 (n - 1))

/-- The bounds of the immediate number, where there are any. -/
def immB (p : Pr) (o : Int) : Option (Int × Int) :=
  if o = 1 then some (-2147483648, 2147483647) else if o = 37 then some (0, (if p.st = 3 then 3 * p.ip else p.ip) - 1) else if o = 38 then some (0, p.un - 1) else if o = 39 then some (0, p.ou - 1)
  else if o = 40 then some (0, 4 * p.tx - 1) else if o = 41 then some (0, 4 * p.tx - 1) else if o = 42 then some (0, p.bf - 1) else if o = 46 then some (1, 16) else none
def immO (p : Pr) (o i : Int) : Bool := match immB p o with | none => true | some (lo, hi) => wth i lo hi

/-- The open constructs behind an opcode (1: an If, 2: an If with Else, 3: a Loop; the innermost one is the last), if it may stand here. -/
def top (s : List Int) : Int := s.getLast?.getD 0
def stp (st o : Int) (s : List Int) : Option (List Int) :=
  if o = 43 then some (s ++ [1]) else if o = 44 then (if top s = 1 then some (s.dropLast ++ [2]) else none)
  else if o = 45 then (if top s = 1 ∨ top s = 2 then some s.dropLast else none)
  else if o = 46 then (if s.count 3 < 3 then some (s ++ [3]) else none)
  else if o = 49 then (if top s = 3 then some s.dropLast else none)
  else if o = 47 then (if 0 < s.count 3 then some s else none) else if o = 48 then (if 0 < s.count 3 then some s else none)
  else if o = 50 then (if st = 3 then some s else none)
  else if o = 51 then (if st = 2 then some s else none) else if o = 52 then (if st = 2 then some s else none)
  else some s

/-- The first error of an instruction, and the open constructs behind it. -/
def ck1 (p : Pr) (x : In) (s : List Int) : Int × List Int :=
  if okO x.o then (if only x then (if regs p.rg x && immO p x.o x.i then (match stp p.st x.o s with | none => (16, s) | some t => (0, t)) else (6, s)) else (2, s)) else (10, s)
def ckL (p : Pr) : List In → List Int → Int
  | [], s => if s.length = 0 then 0 else 16
  | x :: r, s => if (ck1 p x s).1 = 0 then ckL p r (ck1 p x s).2 else (ck1 p x s).1
def cnts (p : Pr) : Bool := wth p.rg 0 8192 && wth p.ip 0 32 && wth p.ou 0 32 && wth p.un 0 64 && wth p.tx 0 4 && wth p.bf 0 4
def vald (p : Pr) : Int :=
  if wth p.st 1 3 then (if cnts p then (if (p.cd.length : Int) ≤ 16384 then ckL p p.cd [] else 5) else 6) else 10

/-- The registers that an instruction reads; the fields that it uses; a program as numbers. -/
def uses (x : In) : List Int := (if fA (cl x.o) then [x.a] else []) ++ (if fB (cl x.o) then [x.b] else []) ++ (if fC (cl x.o) then [x.c] else [])
def nums (x : In) : List Int := (if fD (cl x.o) then [x.d] else []) ++ uses x ++ (if fI (cl x.o) then [x.i] else [])
def flat (p : Pr) : List Int := [p.st, p.rg, p.ip, p.ou, p.un, p.tx, p.bf, (p.cd.length : Int)] ++ p.cd.flatMap (fun x => x.o :: nums x)

theorem uses_len (x : In) : (uses x).length ≤ 3 := by unfold uses; split <;> split <;> split <;> simp
theorem nums_len (x : In) : (nums x).length ≤ 5 := by
  have := uses_len x
  unfold nums
  split <;> split <;> simp <;> omega

end Go.Proofs.YtnhnbblplnhmlaaGreatDoor
