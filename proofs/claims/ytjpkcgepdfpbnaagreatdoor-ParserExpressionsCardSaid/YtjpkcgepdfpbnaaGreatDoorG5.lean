/- The words of the library's contracts (numerals, cuts, splits, joins), as lists of ints. No function of a program is named here. -/
import Derived.Test.YtjpkcgepdfpbnaaGreatDoorF15
import Derived.Lib.ItoaNum
import Derived.Lib.AtoiAll
import Derived.Lib.Split
import Derived.Lib.Join
import Derived.Lib.Repeat
import Derived.Test.YtjpkcgepdfpbnaaGreatDoorF7
import Derived.Shelf.Abstract
import Derived.Test.YtjpkcgepdfpbnaaGreatDoorShelf
import Derived.Lib.AppendIntMem
import Derived.Lib.AtoiErrMem
namespace Go.Proofs.YtjpkcgepdfpbnaaGreatDoor
open Go.RowKit Go.Sort

/-- Bytes as ints. -/
def nI (l : List UInt8) : List Int := l.map fun b => (b.toNat : Int)

theorem strL_mk (l : List UInt8) : strL ⟨l.toArray⟩ = nI l := by simp [strL, nI]
theorem strL_nI (s : ByteArray) : strL s = nI s.data.toList := rfl
theorem nI_len (l : List UInt8) : (nI l).length = l.length := List.length_map _
theorem nI_append (a b : List UInt8) : nI (a ++ b) = nI a ++ nI b := List.map_append

/-! ### numerals -/
theorem nI_dec (u : Nat) : nI (Lib.decDigits u) = dg u := by
  induction u using Nat.strongRecOn with
  | _ u ih =>
    by_cases h : u < 10
    · rw [dg_lt h, Lib.decDigits, dif_pos h]
      simp only [nI, List.map_cons, List.map_nil, UInt8.toNat_ofNat']
      congr 1
      omega
    · rw [dg_ge (by omega), Lib.decDigits, dif_neg h, nI_append, ih (u / 10) (by omega)]
      simp only [nI, List.map_cons, List.map_nil, UInt8.toNat_ofNat']
      congr 2
      omega

theorem nI_itoa (n : Int) : nI (Lib.itoa n) = fint n := by
  unfold Lib.itoa fint
  split
  · rw [show n.natAbs = (-n).toNat by omega]
    have := nI_dec (-n).toNat
    simp only [nI, List.map_cons] at this ⊢
    rw [this]
    rfl
  · exact nI_dec _

/-! ### a prefix of one byte -/
theorem nI_hasPrefix (c : UInt8) (L : List UInt8) : Lib.hasPrefix L [c] = decide ((nI L).head? = some (c.toNat : Int)) := by
  cases L with
  | nil => simp [Lib.hasPrefix, nI]
  | cons x r =>
    simp only [Lib.hasPrefix, nI, List.isPrefixOf_cons_cons, List.isPrefixOf_nil_left, Bool.and_true, List.map_cons, List.head?_cons, Option.some.injEq]
    by_cases h : c = x
    · subst h; simp
    · have : ¬ (x.toNat : Int) = (c.toNat : Int) := fun e => h (UInt8.toNat_inj.1 (by omega))
      simp [h, this]

theorem nI_trimPrefix (c : UInt8) (L : List UInt8) (h : (nI L).head? = some (c.toNat : Int)) : nI (Lib.trimPrefix L [c]) = (nI L).tail := by
  unfold Lib.trimPrefix
  rw [nI_hasPrefix, decide_eq_true h, if_pos rfl]
  simp [nI, List.map_tail]

theorem trimPrefix_no (c : UInt8) (L : List UInt8) (h : (nI L).head? ≠ some (c.toNat : Int)) : Lib.trimPrefix L [c] = L := by
  unfold Lib.trimPrefix
  rw [nI_hasPrefix, decide_eq_false h, if_neg (by decide)]

theorem nI_hasSuffix (c : UInt8) (L : List UInt8) : Lib.hasSuffix L [c] = decide ((nI L).getLast? = some (c.toNat : Int)) := by
  unfold Lib.hasSuffix
  have h : ∀ b : Bool, (b = true ↔ (nI L).getLast? = some (c.toNat : Int)) → b = decide ((nI L).getLast? = some (c.toNat : Int)) := by
    intro b hb
    cases b
    · rw [eq_comm, decide_eq_false_iff_not]; intro h; exact absurd (hb.2 h) (by decide)
    · rw [eq_comm, decide_eq_true_eq]; exact hb.1 rfl
  apply h
  rw [List.isSuffixOf_iff_suffix]
  constructor
  · rintro ⟨a, rfl⟩
    simp [nI]
  · intro h
    rcases List.eq_nil_or_concat L with rfl | ⟨a, x, rfl⟩
    · simp [nI] at h
    · simp only [nI, List.concat_eq_append, List.map_append, List.map_cons, List.map_nil, List.getLast?_append, List.getLast?_singleton, Option.some_or, Option.some.injEq] at h
      have : x = c := UInt8.toNat_inj.1 (by omega)
      subst this
      exact ⟨a, by simp⟩

theorem nI_trimSuffix (c : UInt8) (L : List UInt8) (h : (nI L).getLast? = some (c.toNat : Int)) : nI (Lib.trimSuffix L [c]) = (nI L).dropLast := by
  unfold Lib.trimSuffix
  rw [nI_hasSuffix, decide_eq_true h, if_pos rfl]
  simp only [nI, List.length_singleton, List.dropLast_eq_take, List.length_map, List.map_take]

theorem trimSuffix_no (c : UInt8) (L : List UInt8) (h : (nI L).getLast? ≠ some (c.toNat : Int)) : Lib.trimSuffix L [c] = L := by
  unfold Lib.trimSuffix
  rw [nI_hasSuffix, decide_eq_false h, if_neg (by decide)]

/-! ### the place of a byte -/
theorem index_one (c : UInt8) : ∀ L : List UInt8, (Lib.index L [c] = -1 ∧ (c.toNat : Int) ∉ nI L) ∨ (∃ (i : Nat), Lib.index L [c] = i ∧ i < L.length ∧ (c.toNat : Int) ∉ (nI L).take i ∧ (nI L)[i]? = some (c.toNat : Int))
  | [] => .inl ⟨rfl, by simp [nI]⟩
  | x :: r => by
    by_cases h : c = x
    · subst h
      refine .inr ⟨0, by simp [Lib.index], by simp, by simp, by simp [nI]⟩
    · have hx : ¬ (c.toNat : Int) = (x.toNat : Int) := fun e => h (UInt8.toNat_inj.1 (by omega))
      have hp : ([c] : List UInt8).isPrefixOf (x :: r) = false := by simp [List.isPrefixOf_cons_cons, h]
      rcases index_one c r with ⟨h1, h2⟩ | ⟨i, h1, h2, h3, h4⟩
      · left
        refine ⟨by unfold Lib.index; rw [hp, h1]; rfl, ?_⟩
        simp only [nI, List.map_cons, List.mem_cons, not_or] at h2 ⊢
        exact ⟨hx, h2⟩
      · right
        refine ⟨i + 1, ?_, by simpa using h2, ?_, ?_⟩
        · unfold Lib.index
          rw [hp, h1]
          have : ((i : Int) == -1) = false := by rw [beq_eq_false_iff_ne]; omega
          simp [this]
        · simp only [nI, List.map_cons, List.take_succ_cons, List.mem_cons, not_or] at h3 ⊢
          exact ⟨hx, h3⟩
        · simpa [nI] using h4

theorem pnt_none : ∀ {L : List Int}, (46 : Int) ∉ L → pnt L = L.length
  | [], _ => rfl
  | x :: r, h => by
    simp only [List.mem_cons, not_or] at h
    have := pnt_none h.2
    unfold pnt at this ⊢
    rw [List.takeWhile_cons_of_pos (by simp; exact fun e => h.1 e.symm), List.length_cons, this, List.length_cons]

theorem pnt_split {L : List Int} {i : Nat} (h : (46 : Int) ∉ L.take i) (hi : L[i]? = some 46) : pnt L = i := by
  have e : L = L.take i ++ 46 :: L.drop (i + 1) := by
    conv => lhs; rw [← List.take_append_drop i L, pnt_on.list_cut hi]
  have hl : i < L.length := by
    rcases Nat.lt_or_ge i L.length with h' | h'
    · exact h'
    · rw [List.getElem?_eq_none h'] at hi; cases hi
  rw [e]
  unfold pnt
  rw [List.takeWhile_append_of_pos (by intro x hx; simp; rintro rfl; exact h hx), List.takeWhile_cons_of_neg (by simp), List.append_nil, List.length_take]
  omega

/-- strings.Cut at the point. -/
theorem cut_no {L : List UInt8} (h : pnt (nI L) = L.length) : Lib.cut L [46] = (L, [], false) := by
  rcases index_one 46 L with ⟨h1, _⟩ | ⟨i, h1, h2, h3, h4⟩
  · unfold Lib.cut; rw [h1, if_neg (by decide)]
  · have := pnt_split h3 h4
    omega

theorem cut_yes {L : List UInt8} (h : pnt (nI L) < L.length) : Lib.cut L [46] = (L.take (pnt (nI L)), L.drop (pnt (nI L) + 1), true) := by
  rcases index_one 46 L with ⟨_, h2⟩ | ⟨i, h1, h2, h3, h4⟩
  · have := pnt_none h2
    rw [nI_len] at this
    omega
  · have e := pnt_split h3 h4
    unfold Lib.cut
    rw [h1, if_pos (by omega), e]
    simp

/-! ### splits -/
theorem sp_none {c : Int} : ∀ {L : List Int} (cur : List Int), c ∉ L → sp c L cur = [cur ++ L]
  | [], cur, _ => by simp [sp]
  | x :: r, cur, h => by
    simp only [List.mem_cons, not_or] at h
    rw [sp, if_neg (fun e => h.1 e.symm), sp_none _ h.2]
    simp

theorem sp_hit {c : Int} : ∀ {a : List Int} (r cur : List Int), c ∉ a → sp c (a ++ c :: r) cur = (cur ++ a) :: sp c r []
  | [], r, cur, _ => by simp [sp]
  | x :: a, r, cur, h => by
    simp only [List.mem_cons, not_or] at h
    rw [List.cons_append, sp, if_neg (fun e => h.1 e.symm), sp_hit r _ h.2]
    simp

theorem splitB_sp (c : UInt8) : ∀ (n : Nat) (s : ByteArray), s.size ≤ n → (Lib.splitB ⟨#[c]⟩ 0 (Lib.countB s ⟨#[c]⟩) s).map strL = sp (c.toNat : Int) (strL s) [] := by
  intro n
  induction n with
  | zero =>
    intro s hs
    obtain rfl : s = ⟨#[]⟩ := str_ext (by rw [strL_empty]; exact List.eq_nil_of_length_eq_zero (by rw [strL_len]; omega))
    rfl
  | succ n ih =>
    intro s hs
    rcases index_one c s.data.toList with ⟨h1, h2⟩ | ⟨i, h1, h2, h3, h4⟩
    · rw [Lib.splitB_miss _ _ _ _ h1, strL_nI, sp_none _ h2]
      rfl
    · have h1' : Lib.indexB s ⟨#[c]⟩ = i := h1
      rw [Lib.countB_hit s ⟨#[c]⟩ i (Nat.le_refl _) h1', Nat.add_comm 1, Lib.splitB_hit _ _ _ _ i h1', List.map_cons]
      have hsz : (⟨#[c]⟩ : ByteArray).size = 1 := rfl
      rw [hsz, Nat.add_zero]
      have hl : i < s.size := by rw [← strL_len, strL_nI, nI_len]; exact h2
      rw [ih (s.extract (i + 1) s.size) (by rw [ByteArray.size_extract]; omega)]
      have e : strL s = (strL s).take i ++ (c.toNat : Int) :: (strL s).drop (i + 1) := by
        conv => lhs; rw [← List.take_append_drop i (strL s), pnt_on.list_cut (by rw [strL_nI]; exact h4)]
      conv => rhs; rw [e]
      rw [sp_hit _ _ (by rw [strL_nI]; exact h3), strL_extract, strL_extract, List.drop_zero, Nat.sub_zero, List.nil_append, show ((strL s).drop (i + 1)).take (s.size - (i + 1)) = (strL s).drop (i + 1) from List.take_of_length_le (by rw [List.length_drop, strL_len]; omega)]

/-! ### joins and copies -/
theorem nI_joinTail : ∀ r : List ByteArray, nI (Lib.joinTail [32] (r.map (·.data.toList))) = jn true r
  | [] => rfl
  | x :: r => by
    have := nI_joinTail r
    unfold Lib.joinTail at this ⊢
    rw [List.map_cons, List.map_cons, List.flatten_cons, nI_append, this, nI_append, jn, if_pos rfl, strL_nI]
    rfl

theorem nI_join (xs : List ByteArray) : nI (Lib.join (xs.map (·.data.toList)) [32]) = jn false xs := by
  cases xs with
  | nil => rfl
  | cons x r =>
    rw [List.map_cons, Lib.join_cons, nI_append, nI_joinTail, jn, if_neg (by decide), List.nil_append, strL_nI]

theorem nI_repeat (c : UInt8) : ∀ n : Nat, nI (Lib.repeatL [c] n) = List.replicate n (c.toNat : Int)
  | 0 => rfl
  | n + 1 => by
    rw [Lib.repeatL, nI_append, nI_repeat c n, List.replicate_succ]
    rfl

/-! ### numbers out of digits -/
/-- All digits. -/
def dgs (l : List Int) : Bool := l.all fun x => decide (48 ≤ x) && decide (x ≤ 57)

theorem dgs_cons (x : Int) (r : List Int) : dgs (x :: r) = ((decide (48 ≤ x) && decide (x ≤ 57)) && dgs r) := List.all_cons

/-- The number of some digits behind n. -/
def vals : List Int → Int → Int
  | [], n => n
  | x :: r, n => vals r (n * 10 + (x - 48))

theorem rnum_snd : ∀ (l : List Int) (n : Int), (rnum l n).2 = dgs l
  | [], n => rfl
  | x :: r, n => by
    rw [dgs_cons]
    by_cases h : x < 48 ∨ 57 < x
    · rw [rnum_no h]
      rcases h with h | h
      · rw [decide_eq_false (show ¬ 48 ≤ x by omega)]; rfl
      · rw [decide_eq_false (show ¬ x ≤ 57 by omega)]; simp
    · rw [rnum_on h, rnum_snd r, decide_eq_true (show 48 ≤ x by omega), decide_eq_true (show x ≤ 57 by omega)]
      simp

theorem vals_mono : ∀ (l : List Int) (a b : Int), a ≤ b → vals l a ≤ vals l b
  | [], a, b, h => h
  | x :: r, a, b, h => vals_mono r _ _ (by omega)

theorem vals_ge : ∀ (l : List Int) (a : Int), dgs l = true → 0 ≤ a → a ≤ vals l a
  | [], a, _, _ => Int.le_refl a
  | x :: r, a, h, h0 => by
    rw [dgs_cons] at h
    simp only [Bool.and_eq_true, decide_eq_true_eq] at h
    have := vals_ge r (a * 10 + (x - 48)) h.2 (by omega)
    rw [vals]
    omega

theorem rnum_vals : ∀ (l : List Int) (a : Int), dgs l = true → 0 ≤ a → (rnum l (min a 4611686018427387905)).1 = min (vals l a) 4611686018427387905
  | [], a, _, _ => rfl
  | x :: r, a, h, h0 => by
    rw [dgs_cons] at h
    simp only [Bool.and_eq_true, decide_eq_true_eq] at h
    rw [rnum_on (by omega), vals]
    have e : capn (min a 4611686018427387905) (x - 48) = min (a * 10 + (x - 48)) 4611686018427387905 := by
      unfold capn; split <;> omega
    rw [e, rnum_vals r _ h.2 (by omega)]

theorem numb_vals {l : List Int} (h : dgs l = true) : (numb l).1 = min (vals l 0) 4611686018427387905 := by
  unfold numb
  rw [if_pos (by rw [rnum_snd]; exact h)]
  have := rnum_vals l 0 h (by omega)
  rw [show min (0 : Int) 4611686018427387905 = 0 by decide] at this
  exact this

theorem numb_snd (l : List Int) : (numb l).2 = (dgs l && decide (0 < l.length)) := by
  unfold numb
  by_cases h : (rnum l 0).2 = true
  · rw [if_pos h, ← rnum_snd l 0, h]; rfl
  · rw [if_neg h, ← rnum_snd l 0]; simp at h; rw [h]; rfl

theorem parse_vals : ∀ (l : List UInt8) (acc : Nat), dgs (nI l) = true → acc < 18446744073709551616 →
    (vals (nI l) acc < 18446744073709551616 ∧ Lib.parseUint10 acc l = .ok (vals (nI l) acc).toNat) ∨ (18446744073709551616 ≤ vals (nI l) acc ∧ Lib.parseUint10 acc l = .range)
  | [], acc, _, ha => .inl ⟨by simp only [nI, List.map_nil, vals]; omega, by simp [nI, vals, Lib.parseUint10]⟩
  | x :: r, acc, h, ha => by
    have hx := x.toNat_lt
    simp only [nI, List.map_cons] at h ⊢
    rw [dgs_cons] at h
    simp only [Bool.and_eq_true, decide_eq_true_eq] at h
    rw [vals, Lib.parseUint10, if_pos (by omega)]
    have e : ((acc : Int) * 10 + ((x.toNat : Int) - 48)) = ((acc * 10 + (x.toNat - 48) : Nat) : Int) := by omega
    rw [e]
    by_cases h1 : 1844674407370955162 ≤ acc
    · rw [if_pos h1]
      have := vals_ge (nI r) ((acc * 10 + (x.toNat - 48) : Nat) : Int) h.2 (by omega)
      unfold nI at this
      exact .inr ⟨by omega, rfl⟩
    · rw [if_neg h1]
      by_cases h2 : 18446744073709551616 ≤ acc * 10 + (x.toNat - 48)
      · rw [if_pos h2]
        have := vals_ge (nI r) ((acc * 10 + (x.toNat - 48) : Nat) : Int) h.2 (by omega)
        unfold nI at this
        exact .inr ⟨by omega, rfl⟩
      · rw [if_neg h2]
        exact parse_vals r _ h.2 (by omega)

/-- A decimal form without a sign. -/
def natB (l : List Int) : Bool := dgs l && decide (0 < l.length) && (decide (l.length = 1) || decide (l.head? ≠ some 48))

theorem natv_snd (l : List Int) : (natv l).2 = natB l := by unfold natv natB; rw [numb_snd]
theorem natv_fst {l : List Int} (h : natB l = true) : (natv l).1 = min (vals l 0) 4611686018427387905 := by
  unfold natB at h
  simp only [Bool.and_eq_true] at h
  unfold natv
  exact numb_vals h.1.1

theorem natB_dgs {l : List Int} (h : natB l = true) : dgs l = true ∧ 0 < l.length := by
  unfold natB at h
  simp only [Bool.and_eq_true, decide_eq_true_eq] at h
  exact h.1

theorem vals_zero {l : List Int} (h : natB l = true) (h0 : vals l 0 = 0) : l = [48] := by
  unfold natB at h
  simp only [Bool.and_eq_true, Bool.or_eq_true, decide_eq_true_eq] at h
  obtain ⟨⟨hd, hl⟩, h1⟩ := h
  match l, hl with
  | x :: r, _ =>
    rw [dgs_cons] at hd
    simp only [Bool.and_eq_true, decide_eq_true_eq] at hd
    rw [vals] at h0
    have := vals_ge r (0 * 10 + (x - 48)) hd.2 (by omega)
    obtain rfl : x = 48 := by omega
    rcases h1 with h1 | h1
    · cases r with
      | nil => rfl
      | cons => simp at h1
    · simp at h1

/-- Atoi of a decimal form without a sign. -/
theorem atoi_nat {l : List UInt8} (h : natB (nI l) = true) :
    (vals (nI l) 0 < 9223372036854775808 ∧ Lib.atoiAll l = .ok (vals (nI l) 0)) ∨ (9223372036854775808 ≤ vals (nI l) 0 ∧ Lib.atoiAll l = .range) := by
  obtain ⟨hd, hl⟩ := natB_dgs h
  match l, hl with
  | x :: r, _ =>
    have hx : 48 ≤ x.toNat ∧ x.toNat ≤ 57 := by
      simp only [nI, List.map_cons] at hd
      rw [dgs_cons] at hd
      simp only [Bool.and_eq_true, decide_eq_true_eq] at hd
      omega
    have hp := parse_vals (x :: r) 0 hd (by omega)
    have h0 := vals_ge (nI (x :: r)) 0 hd (by omega)
    unfold Lib.atoiAll Lib.parseMag
    simp only
    rw [if_neg (show ¬ (x.toNat = 43 ∨ x.toNat = 45) by omega), if_neg (by simp)]
    simp only [Int.ofNat_zero] at hp
    rcases hp with ⟨h1, h2⟩ | ⟨h1, h2⟩
    · rw [h2]
      simp only
      by_cases h9 : 9223372036854775808 ≤ vals (nI (x :: r)) 0
      · rw [if_pos (by omega)]
        exact .inr ⟨h9, rfl⟩
      · rw [if_neg (by omega), if_neg (by omega), if_neg (by omega)]
        exact .inl ⟨by omega, by congr 1; omega⟩
    · rw [h2]
      exact .inr ⟨by omega, rfl⟩

/-- Atoi of one behind a minus. -/
theorem atoi_neg {l : List UInt8} (h : natB (nI l) = true) :
    (vals (nI l) 0 ≤ 9223372036854775808 ∧ Lib.atoiAll (45 :: l) = .ok (-(vals (nI l) 0))) ∨ (9223372036854775808 < vals (nI l) 0 ∧ Lib.atoiAll (45 :: l) = .range) := by
  obtain ⟨hd, hl⟩ := natB_dgs h
  have hp := parse_vals l 0 hd (by omega)
  have h0 := vals_ge (nI l) 0 hd (by omega)
  unfold Lib.atoiAll Lib.parseMag
  simp only
  have e45 : (45 : UInt8).toNat = 45 := rfl
  have e1 : (if (45 : UInt8).toNat = 43 ∨ (45 : UInt8).toNat = 45 then l else 45 :: l) = l := if_pos (.inr e45)
  rw [e1, if_neg (by rintro rfl; simp [nI] at hl)]
  simp only [Int.ofNat_zero] at hp
  rcases hp with ⟨h1, h2⟩ | ⟨h1, h2⟩
  · rw [h2]
    simp only [e45]
    by_cases h9 : 9223372036854775808 < vals (nI l) 0
    · rw [if_neg (by simp), if_pos (by simp; omega)]
      exact .inr ⟨h9, rfl⟩
    · rw [if_neg (by simp), if_neg (by simp; omega), if_pos trivial]
      exact .inl ⟨by omega, by congr 1; omega⟩
  · rw [h2]
    exact .inr ⟨by omega, rfl⟩

end Go.Proofs.YtjpkcgepdfpbnaaGreatDoor

/- What the helpers of package format over bytes return: the classes of bytes, every, isDigits, isNatural, isField, IsName. -/
namespace Go.Proofs.YtjpkcgepdfpbnaaGreatDoor
open Go.RowKit Go.Sort

/-- A digit. -/
def digB (x : Int) : Bool := decide (48 ≤ x) && decide (x ≤ 57)

theorem dgs_all (l : List Int) : dgs l = l.all digB := rfl

theorem isDigit_q (x : Int) (w : World) : Calls Tryz.prog 168 #[.int .u8 x] w fun e w' => e = .returned (.bool (digB x)) ∧ w = w' := by
  have hc : x < 48 ∨ (48 ≤ x ∧ x ≤ 57) ∨ (48 ≤ x ∧ 57 < x) := by omega
  have HB : Hid (digB x = (decide (48 ≤ x) && decide (x ≤ 57))) := Lib.hid rfl
  rcases hc with hc | ⟨hc, hd⟩ | ⟨hc, hd⟩
  all_goals
    go_enter Tryz.func168, Tryz.ntmps168
    go_wp2
    go_ret
    refine ⟨ret_bool' ?_, rfl⟩
    rw [HB.out, Bool.eq_iff_iff]
    simp
    try omega

/-- What is asked of a class of bytes. -/
def Cls (g : Nat) (p : Int → Bool) : Prop := ∀ (x : Int) (W : World), Calls Tryz.prog g #[.int .u8 x] W fun e w' => e = .returned (.bool (p x)) ∧ W = w'

theorem alls_on {p : Int → Bool} {l : List Int} {k : Nat} {x : Int} {b : Bool} (h : Hid ((l.drop k).all p = b)) (hx : l[k]? = some x) : (p x && (l.drop (k + 1)).all p) = b := by
  rw [← h.out, pnt_on.list_cut hx, List.all_cons]

set_option maxRecDepth 100000 in
theorem every_q (g : Nat) (p : Int → Bool) (s : ByteArray) (w : World) (eg : Enters Tryz.prog g) (hp : Cls g p) (hs : s.size ≤ 9223372036854775807) :
    Calls Tryz.prog 167 #[.string s, .func (.func g) #[] #[]] w fun e w' => e = .returned (.bool ((strL s).all p)) ∧ w = w' := by
  obtain ⟨nb, hnb⟩ : ∃ b, (strL s).all p = b := ⟨_, rfl⟩
  rw [hnb]
  have HN := Lib.hid hnb
  have HP := Lib.hid hp
  unfold Enters at eg
  clear hnb hp
  go_enter Tryz.func167, Tryz.ntmps167
  go_wp2
  go_loop [8] (fun i => ∃ k : Nat, k ≤ s.size ∧ i = .int .i64 k ∧ ((strL s).drop k).all p = nb) (fun i => s.size - (intOf i).toNat)
  case atStart => exact ⟨0, by omega, rfl, HN.out⟩
  case round =>
    obtain ⟨k, hk, rfl, hall⟩ := hrel
    have HA := Lib.hid hall
    clear hall
    by_cases hlt : k < s.size
    · have ha := alls_on HA (strL_at s k hlt)
      have hc := HP.out ((s[k]).toNat : Int)
      cases hb : p ((s[k]).toNat : Int)
      · rw [hb] at hc ha
        have e : nb = false := by rw [← ha]; rfl
        subst e
        have HC := Lib.hid hc
        clear hc hb ha
        go_wp2_with (go_at_fn g; refine (HC.out _).mono ?_; rintro _ _ ⟨rfl, rfl⟩)
        go_ret
        exact ⟨rfl, rfl⟩
      · rw [hb] at hc ha
        have HC := Lib.hid hc
        have HA2 : Hid (((strL s).drop (k + 1)).all p = nb) := Lib.hid (by rw [← ha]; rfl)
        clear hc hb ha
        go_wp2_with (go_at_fn g; refine (HC.out _).mono ?_; rintro _ _ ⟨rfl, rfl⟩)
        go_round
        case rel => exact ⟨k + 1, by omega, by go_num, HA2.out⟩
        case measure => simp [intOf]; omega
    · obtain rfl : k = s.size := by omega
      have e : nb = true := by rw [← HA.out, List.drop_eq_nil_of_le (by rw [strL_len]; exact Nat.le_refl _)]; rfl
      subst e
      clear HA
      go_wp2
      go_ret
      exact ⟨rfl, rfl⟩

theorem str_nil {s : ByteArray} (h : s.size = 0) : s = ⟨#[]⟩ := str_ext (by rw [strL_empty]; exact List.eq_nil_of_length_eq_zero (by rw [strL_len]; exact h))

theorem ne_empty {s : ByteArray} (h : 0 < s.size) : s.toList.isEmpty = false ∧ (!s.toList.isEmpty) = true := by
  have : s.toList.isEmpty = false := by
    rw [ByteArray.toList_eq]
    cases h2 : s.data.toList with
    | nil => have h3 : s.data.toList.length = 0 := by rw [h2]; rfl
             rw [Array.length_toList] at h3
             have : s.size = s.data.size := rfl
             omega
    | cons => rfl
  exact ⟨this, by rw [this]; rfl⟩

theorem ent {f : Nat} {fn : Func} {c : Code} (hf : Tryz.prog.funcs[f]? = some fn) (hname : (fn.name == "runtime.NumGoroutine") = false) (hb : fn.body = some c) : Enters Tryz.prog f := enters_of hf hname hb

theorem e_isDigit : Enters Tryz.prog 168 := enters_of Tryz.func168 (by kernel_rfl) rfl

/-- Digits, at least one. -/
def digsB (l : List Int) : Bool := dgs l && decide (0 < l.length)

theorem isDigits_q (s : ByteArray) (w : World) (hs : s.size ≤ 9223372036854775807) :
    Calls Tryz.prog 158 #[.string s] w fun e w' => e = .returned (.bool (digsB (strL s))) ∧ w = w' := by
  rcases Nat.eq_zero_or_pos s.size with h0 | h0
  · obtain rfl := str_nil h0
    clear h0
    go_enter Tryz.func158, Tryz.ntmps158
    go_wp2
    go_ret
    exact ⟨rfl, rfl⟩
  · obtain ⟨hne, hne2⟩ := ne_empty h0
    have HB : Hid ((strL s).all digB = digsB (strL s)) := Lib.hid (by unfold digsB; rw [strL_len, decide_eq_true h0, Bool.and_true]; rfl)
    have hc := fun W => every_q 168 digB s W e_isDigit isDigit_q hs
    rw [HB.out] at hc
    have HC := Lib.hid hc
    clear hc
    go_enter Tryz.func158, Tryz.ntmps158
    go_wp2_with (go_at_call 167; refine (HC.out _).mono ?_; rintro _ _ ⟨rfl, rfl⟩)
    go_ret
    exact ⟨rfl, rfl⟩

end Go.Proofs.YtjpkcgepdfpbnaaGreatDoor

/- What the helpers of package format over numbers return: powers of ten, the digits of a remainder and back, and whether they will do. -/
namespace Go.Proofs.YtjpkcgepdfpbnaaGreatDoor
open Go.RowKit Go.Sort

theorem powerOfTen_q (k : Nat) (w : World) (hk : k ≤ 18) :
    Calls Tryz.prog 170 #[.int .i64 k] w fun e w' => e = .returned (.int .i64 (p10 k)) ∧ w = w' := by
  go_enter Tryz.func170, Tryz.ntmps170
  go_wp2
  go_loop [3, 5] (fun n i => ∃ j : Nat, j ≤ k ∧ i = .int .i64 j ∧ n = .int .i64 (p10 j)) (fun _ i => k - (intOf i).toNat)
  case atStart => exact ⟨0, by omega, rfl, rfl⟩
  case round =>
    obtain ⟨j, hj, rfl, rfl⟩ := hrel
    by_cases hlt : j < k
    · have h1 := p10_pos j
      have h2 := p10_le (show j ≤ 17 by omega)
      rw [show p10 17 = 100000000000000000 by decide] at h2
      have HS := Lib.hid (p10_succ j)
      go_wp2
      go_round
      case rel => exact ⟨j + 1, by omega, by go_num, by rw [HS.out]⟩
      case measure => simp [intOf]; omega
    · obtain rfl : j = k := by omega
      go_wp2
      go_ret
      exact ⟨rfl, rfl⟩

theorem roundDiv_q (n d v : Int) (w : World) (h0 : 0 ≤ n) (h1 : n ≤ 4611686018427387904) (d0 : 1 ≤ d) (d1 : d ≤ 4611686018427387904) (hv : (n + d / 2) / d = v) :
    Calls Tryz.prog 176 #[.int .i64 n, .int .i64 d] w fun e w' => e = .returned (.int .i64 v) ∧ w = w' := by
  have HV := Lib.hid hv
  have e1 : d.tdiv 2 = d / 2 := Int.tdiv_eq_ediv_of_nonneg (by omega)
  have e2 : (n + d / 2).tdiv d = (n + d / 2) / d := Int.tdiv_eq_ediv_of_nonneg (by omega)
  have b0 : 0 ≤ d / 2 := by omega
  have b1 : d / 2 ≤ 2305843009213693952 := by omega
  have b2 : 0 ≤ (n + d / 2) / d := Int.ediv_nonneg (by omega) (by omega)
  have b3 : (n + d / 2) / d ≤ n + d / 2 := Int.ediv_le_self _ (by omega)
  obtain ⟨q, hq⟩ : ∃ q, (n + d / 2) / d = q := ⟨_, rfl⟩
  rw [hq] at e2 b2 b3
  have HV2 : Hid (q = v) := Lib.hid (hq ▸ HV.out)
  clear hv hq HV
  obtain ⟨m, hm⟩ : ∃ m, d / 2 = m := ⟨_, rfl⟩
  rw [hm] at e1 e2 b0 b1 b3
  clear hm
  go_enter Tryz.func176, Tryz.ntmps176
  go_wp2
  go_ret
  exact ⟨congrArg (fun z => Ending.returned (.int .i64 z)) HV2.out, rfl⟩

/-- What is a digit's round quotient in the program's words. -/
theorem fdig_q {r : Int} {k : Nat} (h1 : 1 ≤ k) (h5 : k ≤ 5) (r0 : 0 ≤ r) (r1 : r ≤ 65535) : (r * p10 k + 65536 / 2) / 65536 = fdig r k := by
  rw [(fdig_is h1 h5 r0 r1).1]
  rcases p10_small h1 h5 with e | e | e | e | e <;> (rw [e]; omega)

theorem rda_q {f : Int} {k : Nat} (h1 : 1 ≤ k) (h5 : k ≤ 5) (f0 : 0 ≤ f) (f1 : f ≤ 100000) : (f * 65536 + p10 k / 2) / p10 k = rda (f * 65536) (p10 k) := by
  rcases p10_small h1 h5 with e | e | e | e | e <;> (rw [e, rda_in _ _ (by omega) (by omega) (by omega) (by omega), rdv, if_pos (by omega)]; omega)

theorem fromDigits_q (f : Int) (k : Nat) (w : World) (h1 : 1 ≤ k) (h5 : k ≤ 5) (f0 : 0 ≤ f) (f1 : f ≤ 100000) :
    Calls Tryz.prog 169 #[.int .i64 f, .int .i64 (p10 k)] w fun e w' => e = .returned (.int .i64 (rda (f * 65536) (p10 k))) ∧ w = w' := by
  have hP := p10_small h1 h5
  have hf := rda_q h1 h5 f0 f1
  obtain ⟨P, hPk⟩ : ∃ P, p10 k = P := ⟨_, rfl⟩
  rw [hPk] at hP hf ⊢
  obtain ⟨g, hfk⟩ : ∃ g, rda (f * 65536) P = g := ⟨_, rfl⟩
  rw [hfk] at hf ⊢
  have P1 : P ≤ 100000 := by omega
  have P0 : 10 ≤ P := by omega
  have HF := Lib.hid hf
  clear hP hf hPk hfk
  go_enter Tryz.func169, Tryz.ntmps169
  go_wp2_with (go_at_call 176; refine (roundDiv_q _ _ _ _ (by omega) (by omega) (by omega) (by omega) HF.out).mono ?_; rintro _ _ ⟨rfl, rfl⟩)
  go_ret
  exact ⟨rfl, rfl⟩

end Go.Proofs.YtjpkcgepdfpbnaaGreatDoor

/- What isNatural of package format returns. -/
namespace Go.Proofs.YtjpkcgepdfpbnaaGreatDoor
open Go.RowKit Go.Sort

theorem toList_48 (s : ByteArray) : s.toList = [48] ↔ strL s = [48] := by
  rw [ByteArray.toList_eq]
  constructor
  · intro h; unfold strL; rw [h]; rfl
  · intro h
    have : s = ⟨#[48]⟩ := str_ext (by rw [h]; rfl)
    rw [this]

theorem isNatural_q (s : ByteArray) (w : World) (hs : s.size ≤ 9223372036854775807) :
    Calls Tryz.prog 157 #[.string s] w fun e w' => e = .returned (.bool (natB (strL s))) ∧ w = w' := by
  have hc := fun W => isDigits_q s W hs
  have HB : Hid (natB (strL s) = (digsB (strL s) && (decide ((strL s).length = 1) || decide ((strL s).head? ≠ some 48)))) := Lib.hid rfl
  cases hd : digsB (strL s)
  · rw [hd] at hc HB
    have HC := Lib.hid hc
    clear hc hd
    go_enter Tryz.func157, Tryz.ntmps157
    go_wp2_with (go_at_call 158; refine (HC.out _).mono ?_; rintro _ _ ⟨rfl, rfl⟩)
    go_ret
    exact ⟨ret_bool' HB.out.symm, rfl⟩
  · have hpos : 0 < s.size := by
      unfold digsB at hd
      simp only [Bool.and_eq_true, decide_eq_true_eq, strL_len] at hd
      exact hd.2
    have hpi : (0 : Int) < (s.size : Int) := by omega
    rw [hd] at hc HB
    have HC := Lib.hid hc
    clear hc hd
    go_enter Tryz.func157, Tryz.ntmps157
    go_wp2_with (go_at_call 158; refine (HC.out _).mono ?_; rintro _ _ ⟨rfl, rfl⟩)
    · rename_i h
      go_ret
      refine ⟨ret_bool' ?_, rfl⟩
      rw [HB.out, (toList_48 s).1 h]
      rfl
    · rename_i h
      go_ret
      refine ⟨ret_bool' ?_, rfl⟩
      have h0 : (s.toList == [48]) = false := by simpa using h
      rw [h0, HB.out, head_at s hpos, strL_len, Bool.false_or, Bool.true_and, Bool.eq_iff_iff]
      simp only [bne_iff_ne, ne_eq, Bool.or_eq_true, decide_eq_true_eq, Option.some.injEq]
      constructor
      · exact fun h => .inr h
      · rintro (h1 | h1)
        · intro h2
          apply h
          rw [toList_48]
          have h3 := head_at s hpos
          rw [h2] at h3
          match hl : strL s, h3 with
          | x :: r, h3 =>
            have h4 := strL_len s
            rw [hl, h1] at h4
            simp only [List.length_cons] at h4
            obtain rfl : r = [] := List.eq_nil_of_length_eq_zero (by omega)
            simp only [List.head?_cons, Option.some.injEq] at h3
            rw [h3]
        · exact h1

end Go.Proofs.YtjpkcgepdfpbnaaGreatDoor

/- What must lie in memory for the library's functions, that it stays, and what the library's functions return, in this package's words. -/
namespace Go.Proofs.YtjpkcgepdfpbnaaGreatDoor
open Go.RowKit Go.Sort

theorem var_below {P : Program} {w w' : World} {n : String} {cs : Array Value} (h : w.var? P n = some cs) (B : Below w.heap.size w w') : w'.var? P n = some cs := by
  unfold World.var? at *
  cases hg : P.globalNamed n with
  | none => simp [hg] at h
  | some g =>
    simp only [hg, Option.bind_some] at h ⊢
    have hlt : g < w.heap.size := by
      rcases Nat.lt_or_ge g w.heap.size with h' | h'
      · exact h'
      · rw [Array.getElem?_eq_none h'] at h; simp at h
    rw [B.block g hlt]
    exact h

/-- What lies in memory that the library reads. -/
structure Lay6 (w : World) : Prop where
  tab : Lib.TabIs Tryz.prog w "internal/strconv.uint64pow10" .u64 Lib.pow10Tab
  err : ∃ tp p, w.var? Tryz.prog "strconv.ErrRange" = some #[.iface tp p]
  mxl : ∃ m, w.cell? ⟨0, 0, none⟩ = some (.int .i64 m)
  bru : w.cell? ⟨5, 15, none⟩ = some (.int .u8 4)

theorem Lay6.on {w w' : World} (h : Lay6 w) (B : Below w.heap.size w w') : Lay6 w' :=
  ⟨Lib.tabBelow_of_tabIs h.tab w' B, h.err.elim fun tp h => h.elim fun p h => ⟨tp, p, var_below h B⟩, h.mxl.elim fun m h => ⟨m, cell_below B h⟩, cell_below B h.bru⟩

theorem below_draws (w : World) (n : Nat) : Below w.heap.size w (w.drewN n) := ⟨rfl, rfl, rfl, Nat.le_refl _, fun _ _ => rfl⟩

theorem mk_str {l : List UInt8} {s : ByteArray} (h : nI l = strL s) : (⟨l.toArray⟩ : ByteArray) = s := str_ext (by rw [strL_mk, h])

theorem itoa_b (n : Int) (z : ByteArray) (w : World) (LL : Lay6 w) (h0 : -9223372036854775808 ≤ n) (h1 : n ≤ 9223372036854775807) (hz : strL z = fint n) :
    Calls Tryz.prog 190 #[.int .i64 n] w fun e w' => e = .returned (.string z) ∧ Below w.heap.size w w' :=
  (Tryz.strconv_Itoa n h0 h1 w LL.tab).mono fun e w' ⟨he, k, os, hw⟩ => ⟨by rw [he, mk_str (by rw [nI_itoa, hz])], by rw [hw]; exact Lib.below_grow _ _ (Nat.le_refl _) _ _⟩

theorem cutPre_yes (s t : ByteArray) (w : World) (h : (strL s).head? = some 45) (ht : strL t = (strL s).tail) :
    Calls Tryz.prog 155 #[.string s, .string ⟨#[45]⟩] w fun e w' => e = .returned (.tuple #[.string t, .bool true]) ∧ w = w' :=
  (Tryz.strings_CutPrefix s ⟨#[45]⟩ w).mono fun e w' ⟨he, hw⟩ => ⟨by
    have h1 : Lib.hasPrefix s.data.toList [45] = true := by rw [nI_hasPrefix]; exact decide_eq_true h
    have h2 : (⟨(Lib.trimPrefix s.data.toList [45]).toArray⟩ : ByteArray) = t := mk_str (by rw [nI_trimPrefix 45 _ h, ht]; rfl)
    rw [he]
    show Ending.returned (.tuple #[.string ⟨(Lib.trimPrefix s.data.toList [45]).toArray⟩, .bool (Lib.hasPrefix s.data.toList [45])]) = _
    rw [h1, h2], hw.symm⟩

theorem cutPre_no (s : ByteArray) (w : World) (h : (strL s).head? ≠ some 45) :
    Calls Tryz.prog 155 #[.string s, .string ⟨#[45]⟩] w fun e w' => e = .returned (.tuple #[.string s, .bool false]) ∧ w = w' :=
  (Tryz.strings_CutPrefix s ⟨#[45]⟩ w).mono fun e w' ⟨he, hw⟩ => ⟨by
    have h1 : Lib.hasPrefix s.data.toList [45] = false := by rw [nI_hasPrefix]; exact decide_eq_false h
    have h2 : (⟨(Lib.trimPrefix s.data.toList [45]).toArray⟩ : ByteArray) = s := mk_str (by rw [trimPrefix_no 45 _ h]; rfl)
    rw [he]
    show Ending.returned (.tuple #[.string ⟨(Lib.trimPrefix s.data.toList [45]).toArray⟩, .bool (Lib.hasPrefix s.data.toList [45])]) = _
    rw [h1, h2], hw.symm⟩

theorem cut_no_b (s : ByteArray) (w : World) (LL : Lay6 w) (hs : s.size < 4294967281) (h : pnt (strL s) = s.size) :
    Calls Tryz.prog 156 #[.string s, .string ⟨#[46]⟩] w fun e w' => e = .returned (.tuple #[.string s, .string ⟨#[]⟩, .bool false]) ∧ Below w.heap.size w w' := by
  obtain ⟨m, hm⟩ := LL.mxl
  refine (Tryz.strings_Cut s ⟨#[46]⟩ m w hs hm).mono fun e w' ⟨he, n, hw⟩ => ⟨?_, by rw [hw]; exact below_draws w n⟩
  have h1 : Lib.cut s.data.toList [46] = (s.data.toList, [], false) := cut_no (by rw [← strL_nI, h, ← strL_len, strL_nI, nI_len])
  rw [he]
  show Ending.returned (.tuple #[.string ⟨(Lib.cut s.data.toList [46]).1.toArray⟩, .string ⟨(Lib.cut s.data.toList [46]).2.1.toArray⟩, .bool (Lib.cut s.data.toList [46]).2.2]) = _
  rw [h1, mk_str (s := s) (strL_nI s).symm]

theorem cut_yes_b (s a b : ByteArray) (w : World) (LL : Lay6 w) (hs : s.size < 4294967281) (h : pnt (strL s) < s.size) (ha : strL a = (strL s).take (pnt (strL s))) (hb : strL b = (strL s).drop (pnt (strL s) + 1)) :
    Calls Tryz.prog 156 #[.string s, .string ⟨#[46]⟩] w fun e w' => e = .returned (.tuple #[.string a, .string b, .bool true]) ∧ Below w.heap.size w w' := by
  obtain ⟨m, hm⟩ := LL.mxl
  refine (Tryz.strings_Cut s ⟨#[46]⟩ m w hs hm).mono fun e w' ⟨he, n, hw⟩ => ⟨?_, by rw [hw]; exact below_draws w n⟩
  have hl : s.size = s.data.toList.length := by rw [← strL_len, strL_nI, nI_len]
  have h1 : Lib.cut s.data.toList [46] = (s.data.toList.take (pnt (strL s)), s.data.toList.drop (pnt (strL s) + 1), true) := cut_yes (by rw [← strL_nI, ← hl]; exact h)
  rw [he]
  show Ending.returned (.tuple #[.string ⟨(Lib.cut s.data.toList [46]).1.toArray⟩, .string ⟨(Lib.cut s.data.toList [46]).2.1.toArray⟩, .bool (Lib.cut s.data.toList [46]).2.2]) = _
  rw [h1, mk_str (s := a) (by rw [ha, strL_nI]; simp [nI, List.map_take]), mk_str (s := b) (by rw [hb, strL_nI]; simp [nI, List.map_drop])]

theorem atoi_ok (s : ByteArray) (v : Int) (w : World) (hs : s.size ≤ 9223372036854775806) (h : Lib.atoiAll s.data.toList = .ok v) :
    Calls Tryz.prog 161 #[.string s] w fun e w' => e = .returned (.tuple #[.int .i64 v, .nilIface]) ∧ Below w.heap.size w w' :=
  (Tryz.strconv_Atoi_ok s hs v h w).mono fun e w' ⟨he, hw⟩ => ⟨he, by
    rcases hw with rfl | ⟨t, rfl⟩
    · exact Below.refl _ _
    · exact Lib.bytesWorld_below _ _ _⟩

/-- What Atoi gives where no int holds the number. -/
def Ranged (n : Int) (w : World) (e : Ending) (w' : World) : Prop := ∃ (t : TypeId) (N : Nat), e = .returned (.tuple #[.int .i64 n, .iface t (.pointer (some ⟨N, 0, none⟩))]) ∧ Below w.heap.size w w'

theorem atoi_range (s : ByteArray) (w : World) (LL : Lay6 w) (hs : s.size ≤ 281474976710656) (h : Lib.atoiAll s.data.toList = .range) :
    Calls Tryz.prog 161 #[.string s] w (Ranged (Lib.atoiSat s.data.toList) w) := by
  obtain ⟨tp, p, hv⟩ := LL.err
  refine (Tryz.strconv_Atoi_range_var s hs h tp p w hv).mono fun e w' he => ?_
  obtain ⟨N, he, _, _, hb⟩ := he
  exact ⟨_, N, he, hb⟩

/-- What Split gives. -/
def GivesSp (W : World) (T : List (List Int)) (x : Ending) (w' : World) : Prop :=
  ∃ A n l, x = .returned (.slice A n n) ∧ RdS w' w'.heap.size A n l ∧ l.map strL = T ∧ Below W.heap.size W w'

end Go.Proofs.YtjpkcgepdfpbnaaGreatDoor
