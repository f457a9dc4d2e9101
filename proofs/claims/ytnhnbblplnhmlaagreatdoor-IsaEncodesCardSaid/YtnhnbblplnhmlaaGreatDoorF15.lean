/- What JoinFields of the reference returns. -/
import Derived.Test.YtnhnbblplnhmlaaGreatDoorF7
import Derived.Test.YtnhnbblplnhmlaaGreatDoorStrs
import Derived.Test.YtnhnbblplnhmlaaGreatDoorStrsOwn
import Derived.Test.YtnhnbblplnhmlaaGreatDoorTail
namespace Go.Proofs.YtnhnbblplnhmlaaGreatDoor
set_option linter.unusedSimpArgs false
open Go.RowKit Go.Sort

/-- Fields with spaces between them; one in front of the first if there is a field before. -/
def jn : Bool → List ByteArray → List Int
  | _, [] => []
  | b, s :: r => (if b = true then [32] else []) ++ strL s ++ jn true r

theorem jn_room {b : Bool} {l : List ByteArray} {s acc out : ByteArray} {k : Nat} (h : strL acc ++ jn b (l.drop k) = strL out) (hs : l[k]? = some s) : acc.size + (if b = true then 1 else 0) + s.size ≤ out.size := by
  rw [drop_cut hs, jn] at h
  have := congrArg List.length h
  rw [List.length_append, List.length_append, List.length_append, strL_len, strL_len, strL_len] at this
  cases b
  · simp only [Bool.false_eq_true, if_false, List.length_nil] at this ⊢; omega
  · simp only [if_true, List.length_singleton] at this ⊢; omega

theorem jn_first {l : List ByteArray} {s acc out : ByteArray} {k : Nat} (h : Hid (strL acc ++ jn false (l.drop k) = strL out)) (hs : l[k]? = some s) : strL (acc ++ s) ++ jn true (l.drop (k + 1)) = strL out := by
  rw [← h.out, drop_cut hs, jn, strL_append]
  simp only [Bool.false_eq_true, if_false, List.nil_append, List.append_assoc]

theorem jn_next {l : List ByteArray} {s acc out : ByteArray} {k : Nat} (h : Hid (strL acc ++ jn true (l.drop k) = strL out)) (hs : l[k]? = some s) : strL (acc ++ ⟨#[32]⟩ ++ s) ++ jn true (l.drop (k + 1)) = strL out := by
  rw [← h.out, drop_cut hs, jn, strL_append, strL_append]
  simp only [if_true, List.append_assoc]
  rfl

end Go.Proofs.YtnhnbblplnhmlaaGreatDoor

/- Equal lists of strings are the same. -/
namespace Go.Proofs.YtnhnbblplnhmlaaGreatDoor
open Go.RowKit Go.Sort

theorem hid_someS {l : List ByteArray} {j : Nat} {x y : ByteArray} (hx : Hid (l[j]? = some x)) (hy : Hid (l[j]? = some y)) : y = x := by
  have h := hx.out.symm.trans hy.out
  injection h with h
  exact h.symm

end Go.Proofs.YtnhnbblplnhmlaaGreatDoor

/- What split of the reference returns. -/
namespace Go.Proofs.YtnhnbblplnhmlaaGreatDoor
open Go.RowKit Go.Sort

theorem eS : ElemS Tryz.prog 109 9 := elemS_of Tryz.underlying109 (by kernel_rfl)

/-- The parts of a list between the bytes c; cur is the part under way. -/
def sp (c : Int) : List Int → List Int → List (List Int)
  | [], cur => [cur]
  | x :: r, cur => if x = c then cur :: sp c r [] else sp c r (cur ++ [x])

theorem sp_cut {s last : ByteArray} {f : List ByteArray} {k : Nat} {c : Int} {T : List (List Int)} (h : f.map strL ++ sp c ((strL s).drop k) (strL last) = T) (hk : k < s.size) (hc : ((s[k]).toNat : Int) = c) :
    (f ++ [last]).map strL ++ sp c ((strL s).drop (k + 1)) (strL ⟨#[]⟩) = T := by
  rw [← h, strL_drop s k hk, sp, if_pos hc, List.map_append]
  simp only [List.map_cons, List.map_nil, List.append_assoc, List.cons_append, List.nil_append]
  rfl

theorem sp_on {s last : ByteArray} {f : List ByteArray} {k : Nat} {c : Int} {T : List (List Int)} (h : f.map strL ++ sp c ((strL s).drop k) (strL last) = T) (hk : k < s.size) (hc : ¬ ((s[k]).toNat : Int) = c) :
    f.map strL ++ sp c ((strL s).drop (k + 1)) (strL (last ++ s.extract k (k + 1))) = T := by
  rw [← h, strL_drop s k hk, sp, if_neg hc, strL_append, strL_extract, strL_drop s k hk, show k + 1 - k = 1 by omega]
  rfl

/-- What a call of split gives. -/
def GivesS (W : World) (T : List (List Int)) (x : Ending) (w' : World) : Prop :=
  ∃ A n c l, x = .returned (.slice A n c) ∧ OwnS w' W.heap.size 9 A n c l ∧ l.map strL = T ∧ Below W.heap.size W w'

end Go.Proofs.YtnhnbblplnhmlaaGreatDoor

/- What SplitLines of the reference returns. -/
namespace Go.Proofs.YtnhnbblplnhmlaaGreatDoor
open Go.RowKit Go.Sort

/-- The lines of a text; the error. -/
def slin (L : List Int) : List (List Int) × Int :=
  if 16384 < L.length then ([], 5) else if L = [] then ([], 0) else if L.getLast? = some 10 then (sp 10 L.dropLast [], 0) else ([], 3)

/-- What a call that returns strings and an error gives. -/
def GivesE (W : World) (T : List (List Int) × Int) (x : Ending) (w' : World) : Prop :=
  ∃ A n c l, x = .returned (.tuple #[.slice A n c, .int .i64 T.2]) ∧ OwnS w' W.heap.size 9 A n c l ∧ l.map strL = T.1 ∧ Below W.heap.size W w'

theorem GivesE.none_ {W w' : World} {er : Int} (B : Below W.heap.size W w') : GivesE W ([], er) (.returned (.tuple #[.slice none 0 0, .int .i64 er])) w' :=
  ⟨none, 0, 0, [], rfl, ⟨World.ownsRow_nil _ _ _ _, B.size⟩, rfl, B⟩

theorem ne_str {s : ByteArray} (h : 0 < s.size) : s.toList.isEmpty = false := by
  rw [ByteArray.toList_eq]
  cases hl : s.data.toList with
  | nil =>
    exfalso
    have := strL_len s
    unfold strL at this
    rw [hl] at this
    simp at this
    omega
  | cons _ _ => rfl

theorem last_at (s : ByteArray) (h : 0 < s.size) : (strL s).getLast? = some ((s[s.size - 1]'(by omega)).toNat : Int) := by
  rw [List.getLast?_eq_getElem?, strL_len]
  exact strL_at s _ (by omega)

theorem init_str (s : ByteArray) : strL (s.extract 0 (s.size - 1)) = (strL s).dropLast := by
  rw [strL_extract, List.dropLast_eq_take, strL_len]; simp

end Go.Proofs.YtnhnbblplnhmlaaGreatDoor

/- What Fields of the reference returns. -/
namespace Go.Proofs.YtnhnbblplnhmlaaGreatDoor
open Go.RowKit Go.Sort

/-- A byte that a field may hold. -/
def fbyte (x : Int) : Bool := decide (33 ≤ x) && decide (x ≤ 126)
/-- A field. -/
def fok (P : List Int) : Bool := !P.isEmpty && P.all fbyte
/-- The fields of a line; the error. -/
def flds (L : List Int) : List (List Int) × Int :=
  if L = [] then ([], 0) else if (sp 32 L []).all fok = true then (sp 32 L [], 0) else ([], 3)

theorem sp_room (c : Int) : ∀ (L cur : List Int), (sp c L cur).length ≤ L.length + 1 ∧ ∀ P ∈ sp c L cur, P.length ≤ cur.length + L.length
  | [], cur => by simp [sp]
  | x :: r, cur => by
    unfold sp
    split
    · have h := sp_room c r []
      refine ⟨by simp only [List.length_cons]; omega, fun P hP => ?_⟩
      rcases List.mem_cons.1 hP with rfl | hP
      · omega
      · have := h.2 P hP
        simp only [List.length_cons, List.length_nil] at this ⊢
        omega
    · have h := sp_room c r (cur ++ [x])
      refine ⟨by simp only [List.length_cons]; omega, fun P hP => ?_⟩
      have := h.2 P hP
      simp only [List.length_append, List.length_cons, List.length_nil] at this ⊢
      omega

theorem fok_of {s : ByteArray} (h : 0 < s.size) : fok (strL s) = ((strL s).drop 0).all fbyte := by
  have : (strL s).isEmpty = false := by
    cases hl : strL s with
    | nil => have := strL_len s; rw [hl] at this; simp at this; omega
    | cons _ _ => rfl
  unfold fok
  rw [this]; rfl

theorem byte_all_no {s : ByteArray} {k : Nat} {r : Bool} {G : Bool} (h : (((strL s).drop k).all fbyte && r) = G) (hk : k < s.size) (hb : fbyte ((s[k]).toNat : Int) = false) : G = false := by
  rw [strL_drop s k hk, List.all_cons, hb] at h
  rw [← h]; rfl

theorem byte_all_on {s : ByteArray} {k : Nat} {r : Bool} {G : Bool} (h : (((strL s).drop k).all fbyte && r) = G) (hk : k < s.size) (hb : fbyte ((s[k]).toNat : Int) = true) : (((strL s).drop (k + 1)).all fbyte && r) = G := by
  rw [strL_drop s k hk, List.all_cons, hb, Bool.true_and] at h
  exact h

theorem fields_end {L : List Int} {l : List ByteArray} (h : l.map strL = sp 32 L []) (hL : L ≠ []) : flds L = if (l.all fun s => fok (strL s)) = true then (sp 32 L [], 0) else ([], 3) := by
  unfold flds
  rw [if_neg hL, ← h, List.all_map]
  rfl

end Go.Proofs.YtnhnbblplnhmlaaGreatDoor

/- Parsing what was formatted; the shortest form; lines and fields put together again. No walk here. -/
namespace Go.Proofs.YtnhnbblplnhmlaaGreatDoor
open Go.RowKit Go.Sort

/-! ### digits -/
theorem rnum_snoc : ∀ (a : List Int) (n v x : Int), rnum a n = (v, true) → 48 ≤ x → x ≤ 57 → rnum (a ++ [x]) n = (capn v (x - 48), true)
  | [], n, v, x, h, h0, h1 => by
    simp only [rnum_nil, Prod.mk.injEq, and_true] at h
    subst h
    rw [List.nil_append, rnum_on (by omega), rnum_nil]
  | y :: r, n, v, x, h, h0, h1 => by
    by_cases hy : y < 48 ∨ 57 < y
    · rw [rnum_no hy] at h; simp at h
    · rw [rnum_on hy] at h
      rw [List.cons_append, rnum_on hy]
      exact rnum_snoc r _ v x h h0 h1

theorem capn_small {v d : Int} (h : v * 10 + d ≤ 4611686018427387905) : capn v d = v * 10 + d := by
  unfold capn; rw [if_neg (by omega)]

theorem rnum_dg (u : Nat) : (u : Int) ≤ 4611686018427387905 → rnum (dg u) 0 = ((u : Int), true) := by
  induction u using Nat.strongRecOn with
  | _ u ih =>
    intro hu
    by_cases h : u < 10
    · rw [dg_lt h, rnum_on (by omega), rnum_nil, capn_small (by omega)]
      simp only [Prod.mk.injEq, and_true]; omega
    · rw [dg_ge (by omega), rnum_snoc _ _ _ (48 + ((u % 10 : Nat) : Int)) (ih (u / 10) (by omega) (by omega)) (by omega) (by omega), capn_small (by omega)]
      simp only [Prod.mk.injEq, and_true]; omega

theorem numb_dg {u : Nat} (hu : (u : Int) ≤ 4611686018427387905) : numb (dg u) = ((u : Int), true) := by
  have := dg_pos u
  unfold numb
  rw [rnum_dg u hu]
  simp only [if_true, Prod.mk.injEq, true_and, decide_eq_true_eq]
  omega

theorem natv_dg {u : Nat} (hu : (u : Int) ≤ 4611686018427387905) : natv (dg u) = ((u : Int), true) := by
  unfold natv
  rw [numb_dg hu]
  simp only [Bool.true_and, Prod.mk.injEq, true_and, Bool.or_eq_true, decide_eq_true_eq]
  rcases Nat.eq_zero_or_pos u with rfl | h
  · left; rw [dg_lt (by omega)]; rfl
  · right
    obtain ⟨x, r, e, h1, _⟩ := dg_head u h
    rw [e]
    simp
    omega

theorem dg_no45 (u : Nat) : (dg u).head? ≠ some 45 := by
  intro h
  have := dg_rng u 45 (List.mem_of_mem_head? h)
  omega

/-- An int is parsed from its decimal form. -/
theorem pint_fint {n : Int} (h0 : -4611686018427387904 ≤ n) (h1 : n ≤ 4611686018427387904) : pint (fint n) = (n, 0) := by
  unfold pint fint
  by_cases hn : n < 0
  · rw [if_pos hn, if_pos (show (45 :: dg (-n).toNat).head? = some (45 : Int) from rfl), List.tail_cons, natv_dg (by omega)]
    rw [if_neg (by simp; omega), if_neg (by simp only; omega)]
    simp only [Prod.mk.injEq, and_true]; omega
  · rw [if_neg hn, if_neg (dg_no45 _), natv_dg (by omega)]
    rw [if_neg (by simp), if_neg (by simp only; omega)]
    simp only [Prod.mk.injEq, and_true]; omega

/-! ### the digits behind the point -/
theorem dg_ne (u : Nat) : dg u ≠ [] := fun h => by have := dg_pos u; rw [h] at this; simp at this

/-- k digits of a number below 10^k. -/
def zd (k : Nat) (f : Nat) : List Int := (dg (10 ^ k + f)).tail

theorem zd_zero : zd 0 0 = [] := by
  unfold zd
  rw [dg_lt (by omega)]; rfl

theorem zd_succ (k f : Nat) : zd (k + 1) f = zd k (f / 10) ++ [48 + ((f % 10 : Nat) : Int)] := by
  unfold zd
  have h1 : 1 ≤ 10 ^ k := Nat.one_le_pow k 10 (by omega)
  have e : 10 ^ (k + 1) = 10 ^ k * 10 := Nat.pow_succ 10 k
  rw [dg_ge (by omega), show (10 ^ (k + 1) + f) / 10 = 10 ^ k + f / 10 by omega, show (10 ^ (k + 1) + f) % 10 = f % 10 by omega, List.tail_append_of_ne_nil (dg_ne _)]

theorem zd_len : ∀ k f : Nat, f < 10 ^ k → (zd k f).length = k
  | 0, f, h => by
    obtain rfl : f = 0 := by simpa using h
    rw [zd_zero]; rfl
  | k + 1, f, h => by
    rw [zd_succ, List.length_append, zd_len k (f / 10) (by rw [Nat.pow_succ] at h; omega)]; rfl

theorem zd_num : ∀ k f : Nat, f < 10 ^ k → k ≤ 18 → rnum (zd k f) 0 = ((f : Int), true)
  | 0, f, h, _ => by
    obtain rfl : f = 0 := by simpa using h
    rw [zd_zero]; rfl
  | k + 1, f, h, hk => by
    have hb : 10 ^ (k + 1) ≤ 10 ^ 18 := Nat.pow_le_pow_right (by omega) hk
    have hb2 : (10 : Nat) ^ 18 = 1000000000000000000 := by decide
    rw [zd_succ, rnum_snoc _ _ _ (48 + ((f % 10 : Nat) : Int)) (zd_num k (f / 10) (by rw [Nat.pow_succ] at h; omega) (by omega)) (by omega) (by omega), capn_small (by omega)]
    simp only [Prod.mk.injEq, and_true]; omega

theorem zd_numb {k f : Nat} (h : f < 10 ^ k) (h1 : 1 ≤ k) (hk : k ≤ 18) : numb (zd k f) = ((f : Int), true) := by
  unfold numb
  rw [zd_num k f h hk, zd_len k f h]
  simp only [if_true, Prod.mk.injEq, true_and, decide_eq_true_eq]
  omega

theorem zd_drop {k f : Nat} : (zd (k + 1) f).dropLast = zd k (f / 10) := by rw [zd_succ, List.dropLast_concat]

/-- The digits behind the point are those of the first number of digits that will do. -/
theorem frac_zd {r : Int} (r0 : 0 ≤ r) (r1 : r ≤ 65535) : ∃ f : Nat, fdig r (kfirst r) = f ∧ f < 10 ^ kfirst r ∧ rda ((f : Int) * 65536) (p10 (kfirst r)) = r ∧ frac r = zd (kfirst r) f := by
  obtain ⟨hk, h1, h5⟩ := kfirst_ok r0 r1
  have hf := fdig_is h1 h5 r0 r1
  unfold kok at hk
  simp only [Bool.and_eq_true, decide_eq_true_eq] at hk
  obtain ⟨f, e⟩ : ∃ f : Nat, fdig r (kfirst r) = f := ⟨(fdig r (kfirst r)).toNat, by omega⟩
  rw [e] at hk
  rw [p10_nat] at hk
  refine ⟨f, e, by omega, by rw [p10_nat]; exact hk.2, ?_⟩
  unfold frac zd
  rw [e, p10_nat]
  congr 2

theorem pnt_at {a b : List Int} (h : ∀ x ∈ a, x ≠ 46) : pnt (a ++ 46 :: b) = a.length := by
  unfold pnt
  rw [List.takeWhile_append_of_pos (by intro x hx; simpa using h x hx), List.takeWhile_cons_of_neg (by simp), List.append_nil]

theorem dg_no46 (u : Nat) : ∀ x ∈ dg u, x ≠ 46 := fun x hx => by have := dg_rng u x hx; omega

/-- What a decimal form with k digits behind the point is parsed to. -/
theorem pfx_form {neg : Bool} {u k f : Nat} (hu : u ≤ 536870911) (hf : f < 10 ^ k) (h1 : 1 ≤ k) (h5 : k ≤ 5) : pfx neg (dg u ++ 46 :: zd k f) =
    if neg = true ∧ (u : Int) * 65536 + rda ((f : Int) * 65536) (p10 k) = 0 then (0, 3) else if 536870911 < (u : Int) * 65536 + rda ((f : Int) * 65536) (p10 k) then (0, 6)
    else if neg = true then (-((u : Int) * 65536 + rda ((f : Int) * 65536) (p10 k)), 0) else ((u : Int) * 65536 + rda ((f : Int) * 65536) (p10 k), 0) := by
  have hp := pnt_at (b := zd k f) (dg_no46 u)
  have hl : (dg u ++ 46 :: zd k f).length = (dg u).length + 1 + k := by rw [List.length_append, List.length_cons, zd_len k f hf]; omega
  unfold pfx
  rw [hp, hl, List.take_left, if_neg (by omega), natv_dg (by omega), show List.drop ((dg u).length + 1) (dg u ++ 46 :: zd k f) = zd k f by rw [← List.drop_drop, List.drop_left]; rfl, zd_numb hf h1 (by omega), show (dg u).length + 1 + k - (dg u).length - 1 = k by omega]
  rw [if_neg (by simp; omega), if_neg (by simp only; omega)]

end Go.Proofs.YtnhnbblplnhmlaaGreatDoor

/- A fixed-point number is parsed from its decimal form, and that is the shortest; fields and lines put together again. No walk here. -/
namespace Go.Proofs.YtnhnbblplnhmlaaGreatDoor
open Go.RowKit Go.Sort

/-- The decimal form behind the sign. -/
def body (X : Nat) : List Int := dg (X / 65536) ++ 46 :: frac ((X % 65536 : Nat) : Int)

theorem ffix_neg {x : Int} (h0 : -536870911 ≤ x) (h1 : x < 0) : ffix x = 45 :: body x.natAbs := by
  unfold ffix body
  rw [if_neg (by omega), if_pos h1]
  simp
theorem ffix_pos {x : Int} (h0 : 0 ≤ x) (h1 : x ≤ 536870911) : ffix x = body x.natAbs := by
  unfold ffix body
  rw [if_neg (by omega), if_neg (by omega)]
  simp

theorem head_dg (u : Nat) (b : List Int) : (dg u ++ b).head? ≠ some 45 := by
  have h := dg_no45 u
  obtain ⟨x, r, e⟩ := List.exists_cons_of_ne_nil (dg_ne u)
  rw [e] at h ⊢
  exact h

theorem body_head (X : Nat) : (body X).head? ≠ some 45 := head_dg _ _

theorem pfx_body {neg : Bool} {X : Nat} (h : X ≤ 536870911) : pfx neg (body X) = if neg = true ∧ X = 0 then (0, 3) else if neg = true then (-(X : Int), 0) else ((X : Int), 0) := by
  obtain ⟨f, _, hf, hr, hz⟩ := frac_zd (r := ((X % 65536 : Nat) : Int)) (by omega) (by omega)
  obtain ⟨_, k1, k5⟩ := kfirst_ok (r := ((X % 65536 : Nat) : Int)) (by omega) (by omega)
  unfold body
  rw [hz, pfx_form (by omega) hf k1 k5, hr, show ((X / 65536 : Nat) : Int) * 65536 + ((X % 65536 : Nat) : Int) = (X : Int) by omega, if_neg (show ¬ 536870911 < (X : Int) by omega)]
  simp only [Int.natCast_eq_zero]

/-- A saturated number is parsed from its decimal form. -/
theorem pfix_ffix {x : Int} (h0 : -536870911 ≤ x) (h1 : x ≤ 536870911) : pfix (ffix x) = (x, 0) := by
  unfold pfix
  by_cases hn : x < 0
  · rw [ffix_neg h0 hn, if_pos (show (45 :: body x.natAbs).head? = some (45 : Int) from rfl), List.tail_cons, pfx_body (by omega), if_neg (by simp; omega), if_pos rfl]
    simp only [Prod.mk.injEq, and_true]; omega
  · rw [ffix_pos (by omega) h1, if_neg (body_head _), pfx_body (by omega), if_neg (by simp), if_neg (by simp)]
    simp only [Prod.mk.injEq, and_true]; omega

/-- A minus sign in front. -/
theorem pfix_minus {x : Int} (h0 : 0 < x) (h1 : x ≤ 536870911) : pfix (45 :: ffix x) = (-x, 0) := by
  unfold pfix
  rw [ffix_pos (by omega) h1, if_pos (show (45 :: body x.natAbs).head? = some (45 : Int) from rfl), List.tail_cons, pfx_body (by omega), if_neg (by simp; omega), if_pos rfl]
  simp only [Prod.mk.injEq, and_true]; omega

theorem pfix_twice {x : Int} (h0 : -536870911 ≤ x) (h1 : x ≤ 0) : pfix (45 :: ffix x) = (0, 3) := by
  unfold pfix
  rw [if_pos (show (45 :: ffix x).head? = some (45 : Int) from rfl), List.tail_cons]
  by_cases hn : x < 0
  · rw [ffix_neg h0 hn]
    unfold body
    have hp : pnt (45 :: (dg (x.natAbs / 65536) ++ 46 :: frac ((x.natAbs % 65536 : Nat) : Int))) = (dg (x.natAbs / 65536)).length + 1 := by
      have := pnt_at (a := 45 :: dg (x.natAbs / 65536)) (b := frac ((x.natAbs % 65536 : Nat) : Int)) (by
        intro y hy
        rcases List.mem_cons.1 hy with rfl | hy
        · omega
        · exact dg_no46 _ y hy)
      rw [List.cons_append] at this
      rw [this]; rfl
    unfold pfx
    rw [hp, if_neg (by simp), List.take_succ_cons, if_pos]
    left
    unfold natv numb
    rw [rnum_no (by omega)]
    rfl
  · obtain rfl : x = 0 := by omega
    rw [ffix_pos (by omega) (by omega), pfx_body (by decide), if_pos ⟨rfl, rfl⟩]

/-! ### the shortest form -/
theorem kfr_min {r : Int} : ∀ n k j : Nat, k ≤ j → j < kfr r n k → kok r j = false
  | 0, k, j, h, h2 => by rw [kfr] at h2; omega
  | n + 1, k, j, h, h2 => by
    unfold kfr at h2
    by_cases ho : kok r k = true
    · rw [if_pos ho] at h2; omega
    · rw [if_neg ho] at h2
      by_cases e : j = k
      · subst e; simpa using ho
      · exact kfr_min n (k + 1) j (by omega) h2

theorem short_key {r : Int} {j g : Nat} (r0 : 0 ≤ r) (r1 : r ≤ 65535) (j1 : 1 ≤ j) (j4 : j ≤ 4) (hg : g < 10 ^ j) (h : rda ((g : Int) * 65536) (p10 j) = r) : kok r j = true := by
  obtain ⟨hf, _, _⟩ := fdig_is j1 (by omega) r0 r1
  have hp := p10_nat j
  have h4 := p10_le j4
  rw [p10_4] at h4
  unfold kok
  have key : fdig r j = g := by
    rw [hf]
    clear hf
    rcases p10_small j1 (by omega) with e | e | e | e | e <;> (rw [e] at h h4 hp ⊢; try omega) <;> (rw [rda_in _ _ (by omega) (by omega) (by omega) (by omega), rdv, if_pos (by omega)] at h; omega)
  rw [key, h]
  simp only [decide_true, Bool.and_true, decide_eq_true_eq]
  omega

theorem short_no {x : Int} (h0 : -536870911 ≤ x) (h1 : x ≤ 536870911) (h : (ffix x)[(ffix x).length - 2]? ≠ some 46) : pfix (ffix x).dropLast ≠ (x, 0) := by
  intro hpar
  obtain ⟨X, hX⟩ : ∃ X, x.natAbs = X := ⟨_, rfl⟩
  obtain ⟨f, _, hf, hr, hz⟩ := frac_zd (r := ((X % 65536 : Nat) : Int)) (by omega) (by omega)
  obtain ⟨_, k1, k5⟩ := kfirst_ok (r := ((X % 65536 : Nat) : Int)) (by omega) (by omega)
  have hmin := fun j => kfr_min (r := ((X % 65536 : Nat) : Int)) 4 1 j
  rw [show kfr ((X % 65536 : Nat) : Int) 4 1 = kfirst ((X % 65536 : Nat) : Int) from rfl] at hmin
  obtain ⟨k, hk⟩ : ∃ k, kfirst ((X % 65536 : Nat) : Int) = k := ⟨_, rfl⟩
  rw [hk] at hf hr hz k1 k5 hmin
  obtain ⟨S, neg, hS, hfx⟩ : ∃ (S : List Int) (neg : Bool), (S = if neg = true then [45] else []) ∧ ffix x = S ++ (dg (X / 65536) ++ 46 :: zd k f) ∧ (neg = true ↔ x < 0) := by
    by_cases hn : x < 0
    · exact ⟨[45], true, rfl, by rw [ffix_neg h0 hn, hX, body, hz]; rfl, by simp [hn]⟩
    · exact ⟨[], false, rfl, by rw [ffix_pos (by omega) h1, hX, body, hz]; rfl, by simp [hn]⟩
  obtain ⟨hfx, hneg⟩ := hfx
  rw [hfx] at h hpar
  have hzl := zd_len k f hf
  by_cases hk1 : k = 1
  · subst hk1
    obtain ⟨d, hd⟩ := List.length_eq_one_iff.1 hzl
    rw [hd] at h
    apply h
    have hlen : (S ++ dg (X / 65536) ++ [46, d]).length - 2 = (S ++ dg (X / 65536)).length := by
      rw [List.length_append (bs := [46, d])]; simp
    rw [← List.append_assoc, hlen, List.getElem?_append_right (Nat.le_refl _), Nat.sub_self]
    rfl
  · obtain ⟨j, rfl⟩ : ∃ j, k = j + 1 := ⟨k - 1, by omega⟩
    have hne : zd (j + 1) f ≠ [] := fun e => by rw [e] at hzl; simp at hzl
    have hd : (S ++ (dg (X / 65536) ++ 46 :: zd (j + 1) f)).dropLast = S ++ (dg (X / 65536) ++ 46 :: zd j (f / 10)) := by
      rw [List.dropLast_append_of_ne_nil (by simp), List.dropLast_append_of_ne_nil (by simp), List.dropLast_cons_of_ne_nil hne, zd_drop]
    rw [hd] at hpar
    have hf10 : f / 10 < 10 ^ j := by rw [Nat.pow_succ] at hf; omega
    have hform := fun neg => pfx_form (neg := neg) (u := X / 65536) (k := j) (f := f / 10) (by omega) hf10 (by omega) (by omega)
    obtain ⟨q, hq⟩ : ∃ q, rda (((f / 10 : Nat) : Int) * 65536) (p10 j) = q := ⟨_, rfl⟩
    rw [hq] at hform
    have hbad : q = ((X % 65536 : Nat) : Int) := by
      unfold pfix at hpar
      cases neg
      · simp only [Bool.false_eq_true, if_false, false_iff] at hS hneg
        subst hS
        rw [List.nil_append, if_neg (head_dg _ _), hform] at hpar
        simp only [Bool.false_eq_true, if_false, false_and] at hpar
        split at hpar <;> simp only [Prod.mk.injEq] at hpar <;> omega
      · simp only [if_true, true_iff] at hS hneg
        subst hS
        rw [if_pos (by rfl), List.cons_append, List.tail_cons, List.nil_append, hform] at hpar
        simp only [if_true, true_and] at hpar
        split at hpar
        · simp only [Prod.mk.injEq] at hpar; omega
        · split at hpar <;> simp only [Prod.mk.injEq] at hpar <;> omega
    have := short_key (by omega) (by omega) (by omega) (by omega) hf10 (hq.trans hbad)
    rw [hmin j (by omega) (by omega)] at this
    cases this

/-! ### fields and lines -/
theorem sp_ne (c : Int) : ∀ L cur : List Int, sp c L cur ≠ []
  | [], cur => by simp [sp]
  | x :: r, cur => by
    unfold sp
    split
    · simp
    · exact sp_ne c r _

theorem sp_join (c : Int) : ∀ (L cur P : List Int) (Q : List (List Int)), sp c L cur = P :: Q → P ++ Q.flatMap (c :: ·) = cur ++ L
  | [], cur, P, Q, h => by
    simp only [sp, List.cons.injEq] at h
    obtain ⟨rfl, rfl⟩ := h
    simp
  | x :: r, cur, P, Q, h => by
    unfold sp at h
    split at h
    · rename_i hx
      simp only [List.cons.injEq] at h
      obtain ⟨rfl, rfl⟩ := h
      obtain ⟨P2, Q2, e⟩ := List.exists_cons_of_ne_nil (sp_ne c r [])
      have := sp_join c r [] P2 Q2 e
      rw [List.nil_append] at this
      rw [e, List.flatMap_cons, List.cons_append, this, hx]
    · have := sp_join c r _ P Q h
      rw [this, List.append_assoc]; rfl

theorem jn_true : ∀ l : List ByteArray, jn true l = (l.map strL).flatMap (32 :: ·)
  | [] => rfl
  | s :: r => by rw [jn, jn_true r]; simp

/-- The fields of an accepted line, joined again, are the line. -/
theorem fields_join {L : List Int} {l : List ByteArray} (h : l.map strL = (flds L).1) (he : (flds L).2 = 0) : jn false l = L := by
  unfold flds at h he
  by_cases hL : L = []
  · rw [if_pos hL] at h
    subst hL
    rw [List.map_eq_nil_iff.1 h]; rfl
  · rw [if_neg hL] at h he
    split at he
    · rename_i hall
      rw [if_pos hall] at h
      obtain ⟨P, Q, e⟩ := List.exists_cons_of_ne_nil (sp_ne 32 L [])
      have hj := sp_join 32 L [] P Q e
      simp only at h
      rw [e] at h
      obtain ⟨s, r, rfl, rfl, rfl⟩ := List.map_eq_cons_iff.1 h
      rw [jn, jn_true, ← List.nil_append L, ← hj]
      simp
    · simp at he

theorem flat_shift : ∀ (Q : List (List Int)) (P : List Int), P ++ [10] ++ Q.flatMap (· ++ [10]) = P ++ Q.flatMap ((10 : Int) :: ·) ++ [10]
  | [], P => by simp
  | R :: Q, P => by
    have := flat_shift Q R
    rw [List.flatMap_cons, List.flatMap_cons]
    simp only [List.append_assoc, List.cons_append, List.nil_append] at this ⊢
    rw [this]

/-- The lines of an accepted text, with a line feed after each, are the text. -/
theorem lines_join {L : List Int} (he : (slin L).2 = 0) : (slin L).1.flatMap (· ++ [10]) = L := by
  unfold slin at he ⊢
  split at he
  · simp at he
  · rename_i hb
    rw [if_neg hb]
    split at he
    · rename_i hL
      rw [if_pos hL, hL]; rfl
    · rename_i hL
      rw [if_neg hL]
      split at he
      · rename_i hl
        rw [if_pos hl]
        obtain ⟨P, Q, e⟩ := List.exists_cons_of_ne_nil (sp_ne 10 L.dropLast [])
        have hj := sp_join 10 L.dropLast [] P Q e
        rw [List.nil_append] at hj
        simp only
        rw [e, List.flatMap_cons, flat_shift, hj]
        obtain ⟨ys, rfl⟩ := List.getLast?_eq_some_iff.1 hl
        rw [List.dropLast_concat]
      · simp at he

end Go.Proofs.YtnhnbblplnhmlaaGreatDoor

/- An accepted int's decimal form is the string; the chapter's examples. No walk here. -/
namespace Go.Proofs.YtnhnbblplnhmlaaGreatDoor
open Go.RowKit Go.Sort

theorem capn_top {d : Int} (d0 : 0 ≤ d) (d1 : d ≤ 9) : capn 4611686018427387905 d = 4611686018427387905 := by
  unfold capn; rw [if_pos (by omega)]

theorem rnum_top : ∀ (L : List Int) (v : Int), rnum L 4611686018427387905 = (v, true) → v = 4611686018427387905
  | [], v, h => by simp only [rnum_nil, Prod.mk.injEq, and_true] at h; exact h.symm
  | x :: r, v, h => by
    by_cases hx : x < 48 ∨ 57 < x
    · rw [rnum_no hx] at h; simp at h
    · rw [rnum_on hx, capn_top (by omega) (by omega)] at h
      exact rnum_top r v h

theorem rnum_back : ∀ (L : List Int) (n : Nat) (v : Int), rnum L n = (v, true) → v ≤ 4611686018427387904 → 1 ≤ n → dg v.toNat = dg n ++ L
  | [], n, v, h, _, _ => by
    simp only [rnum_nil, Prod.mk.injEq, and_true] at h
    subst h
    simp
  | x :: r, n, v, h, hv, hn => by
    by_cases hx : x < 48 ∨ 57 < x
    · rw [rnum_no hx] at h; simp at h
    · rw [rnum_on hx] at h
      by_cases hc : (4611686018427387905 - (x - 48)) / 10 < (n : Int)
      · rw [show capn (n : Int) (x - 48) = 4611686018427387905 by unfold capn; rw [if_pos hc]] at h
        have := rnum_top r v h
        omega
      · rw [show capn (n : Int) (x - 48) = ((n * 10 + (x - 48).toNat : Nat) : Int) by unfold capn; rw [if_neg hc]; omega] at h
        rw [rnum_back r _ v h hv (by omega), dg_ge (by omega), show (n * 10 + (x - 48).toNat) / 10 = n by omega, show (48 : Int) + (((n * 10 + (x - 48).toNat) % 10 : Nat) : Int) = x by omega, List.append_assoc]
        rfl

/-- The decimal form of an accepted number is the string. -/
theorem natv_back {L : List Int} {v : Int} (h : natv L = (v, true)) (hv : v ≤ 4611686018427387904) : 0 ≤ v ∧ dg v.toNat = L := by
  have h0 := natv_rng L
  rw [h] at h0
  refine ⟨h0.1, ?_⟩
  unfold natv numb at h
  by_cases h2 : (rnum L 0).2 = true
  · rw [if_pos h2] at h
    simp only [Prod.mk.injEq, Bool.and_eq_true, decide_eq_true_eq, Bool.or_eq_true] at h
    obtain ⟨hv', hl, hz⟩ := h
    have hr : rnum L 0 = (v, true) := by rw [← hv', ← h2]
    match L, hl, hz, hr with
    | x :: r, _, hz, hr =>
      by_cases hx : x < 48 ∨ 57 < x
      · rw [rnum_no hx] at hr; simp at hr
      · rw [rnum_on hx, capn_small (by omega)] at hr
        by_cases h48 : x = 48
        · subst h48
          rcases hz with hz | hz
          · obtain rfl : r = [] := by simpa using hz
            simp only [rnum_nil, Prod.mk.injEq, and_true] at hr
            subst hr
            rw [dg_lt (by decide)]; rfl
          · simp at hz
        · have := rnum_back r (x - 48).toNat v (by rw [show (((x - 48).toNat : Nat) : Int) = 0 * 10 + (x - 48) by omega]; exact hr) hv (by omega)
          rw [this, dg_lt (by omega), show (48 : Int) + (((x - 48).toNat : Nat) : Int) = x by omega]
          rfl
  · rw [if_neg h2] at h
    simp at h

theorem pint_back {L : List Int} {v : Int} (h : pint L = (v, 0)) : fint v = L := by
  unfold pint at h
  by_cases hm : L.head? = some 45
  · rw [if_pos hm] at h
    obtain ⟨n, ok, e⟩ : ∃ n ok, natv L.tail = (n, ok) := ⟨_, _, rfl⟩
    rw [e] at h
    simp only at h
    split at h
    · simp at h
    · split at h
      · simp at h
      · rename_i h1 h2
        cases ok
        · simp at h1
        · simp only [Prod.mk.injEq, and_true] at h
          obtain ⟨n0, hd⟩ := natv_back e (by omega)
          have hn : n ≠ 0 := fun hz => h1 (.inr hz)
          subst h
          unfold fint
          rw [if_pos (by omega), show (- -n).toNat = n.toNat by omega, hd]
          match L, hm with
          | x :: r, hm => simp only [List.head?_cons, Option.some.injEq] at hm; rw [hm]; rfl
  · rw [if_neg hm] at h
    obtain ⟨n, ok, e⟩ : ∃ n ok, natv L = (n, ok) := ⟨_, _, rfl⟩
    rw [e] at h
    simp only at h
    split at h
    · simp at h
    · split at h
      · simp at h
      · rename_i h1 h2
        cases ok
        · simp at h1
        · simp only [Prod.mk.injEq, and_true] at h
          obtain ⟨n0, hd⟩ := natv_back e (by omega)
          subst h
          unfold fint
          rw [if_neg (by omega), hd]

theorem pint_rng {L : List Int} {v : Int} (h : pint L = (v, 0)) : -4611686018427387904 ≤ v ∧ v ≤ 4611686018427387904 := by
  have h1 := natv_rng L
  have h2 := natv_rng L.tail
  unfold pint at h
  split at h <;> (split at h <;> first | (simp at h; done) | (split at h <;> first | (simp at h; done) | (simp only [Prod.mk.injEq, and_true] at h; omega)))

/-! ### the examples -/
theorem dg1 : dg 1 = [49] := by rw [dg_lt (by omega)]; rfl
theorem dg0 : dg 0 = [48] := by rw [dg_lt (by omega)]; rfl

theorem ex_a : ffix 98304 = [49, 46, 53] := by
  rw [ffix_pos (by omega) (by omega)]
  unfold body
  rw [show (98304 : Int).natAbs / 65536 = 1 by decide, show (((98304 : Int).natAbs % 65536 : Nat) : Int) = 32768 by decide, dg1]
  unfold frac
  rw [show kfirst 32768 = 1 by decide, show (p10 1 + fdig 32768 1).toNat = 15 by decide, dg_ge (by omega), show 15 / 10 = 1 by decide, dg1]
  rfl

theorem ex_b : ffix 1 = [48, 46, 48, 48, 48, 48, 50] := by
  rw [ffix_pos (by omega) (by omega)]
  unfold body
  rw [show (1 : Int).natAbs / 65536 = 0 by decide, show (((1 : Int).natAbs % 65536 : Nat) : Int) = 1 by decide, dg0]
  unfold frac
  rw [show kfirst 1 = 5 by decide, show (p10 5 + fdig 1 5).toNat = 100002 by decide, dg_ge (by omega), show 100002 / 10 = 10000 by decide, dg_ge (by omega), show 10000 / 10 = 1000 by decide, dg_ge (by omega), show 1000 / 10 = 100 by decide, dg_ge (by omega), show 100 / 10 = 10 by decide, dg_ge (by omega), show 10 / 10 = 1 by decide, dg1]
  rfl

theorem ex_c : ffix (-65536) = [45, 49, 46, 48] := by
  rw [ffix_neg (by omega) (by omega)]
  unfold body
  rw [show (-65536 : Int).natAbs / 65536 = 1 by decide, show (((-65536 : Int).natAbs % 65536 : Nat) : Int) = 0 by decide, dg1]
  unfold frac
  rw [show kfirst 0 = 1 by decide, show (p10 1 + fdig 0 1).toNat = 10 by decide, dg_ge (by omega), show 10 / 10 = 1 by decide, dg1]
  rfl

theorem ex_d : pfix [49, 46, 53, 48] = (98304, 0) := by decide

end Go.Proofs.YtnhnbblplnhmlaaGreatDoor
