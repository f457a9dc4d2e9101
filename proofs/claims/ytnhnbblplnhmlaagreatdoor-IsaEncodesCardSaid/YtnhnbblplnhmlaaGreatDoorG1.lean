/- The words of the library's contracts (numerals, cuts, splits, joins), as lists of ints. No function of a program is named here. -/
import Derived.Test.YtnhnbblplnhmlaaGreatDoorF15
import Derived.Lib.ItoaNum
import Derived.Lib.AtoiAll
import Derived.Lib.Split
import Derived.Lib.Join
import Derived.Lib.Repeat
namespace Go.Proofs.YtnhnbblplnhmlaaGreatDoor
set_option linter.unusedSimpArgs false
open Go.RowKit Go.Sort

/-- Bytes as ints. -/
def nI (l : List UInt8) : List Int := l.map fun b => (b.toNat : Int)

theorem strL_mk (l : List UInt8) : strL ⟨l.toArray⟩ = nI l := by simp [strL, nI]
theorem strL_nI (s : ByteArray) : strL s = nI s.data.toList := rfl
theorem nI_len (l : List UInt8) : (nI l).length = l.length := List.length_map _
theorem nI_append (a b : List UInt8) : nI (a ++ b) = nI a ++ nI b := List.map_append

/-! ### numerals -/
theorem nI_dec (u : Nat) : nI (Lib.decDigits u) = dg u := by
  induction u using Nat.strongRecOn with
  | _ u ih =>
    by_cases h : u < 10
    · rw [dg_lt h, Lib.decDigits, dif_pos h]
      simp only [nI, List.map_cons, List.map_nil, UInt8.toNat_ofNat']
      congr 1
      omega
    · rw [dg_ge (by omega), Lib.decDigits, dif_neg h, nI_append, ih (u / 10) (by omega)]
      simp only [nI, List.map_cons, List.map_nil, UInt8.toNat_ofNat']
      congr 2
      omega

theorem nI_itoa (n : Int) : nI (Lib.itoa n) = fint n := by
  unfold Lib.itoa fint
  split
  · rw [show n.natAbs = (-n).toNat by omega]
    have := nI_dec (-n).toNat
    simp only [nI, List.map_cons] at this ⊢
    rw [this]
    rfl
  · exact nI_dec _

/-! ### a prefix of one byte -/
theorem nI_hasPrefix (c : UInt8) (L : List UInt8) : Lib.hasPrefix L [c] = decide ((nI L).head? = some (c.toNat : Int)) := by
  cases L with
  | nil => simp [Lib.hasPrefix, nI]
  | cons x r =>
    simp only [Lib.hasPrefix, nI, List.isPrefixOf_cons_cons, List.isPrefixOf_nil_left, Bool.and_true, List.map_cons, List.head?_cons, Option.some.injEq]
    by_cases h : c = x
    · subst h; simp
    · have : ¬ (x.toNat : Int) = (c.toNat : Int) := fun e => h (UInt8.toNat_inj.1 (by omega))
      simp [h, this]

theorem nI_trimPrefix (c : UInt8) (L : List UInt8) (h : (nI L).head? = some (c.toNat : Int)) : nI (Lib.trimPrefix L [c]) = (nI L).tail := by
  unfold Lib.trimPrefix
  rw [nI_hasPrefix, decide_eq_true h, if_pos rfl]
  simp [nI, List.map_tail]

theorem trimPrefix_no (c : UInt8) (L : List UInt8) (h : (nI L).head? ≠ some (c.toNat : Int)) : Lib.trimPrefix L [c] = L := by
  unfold Lib.trimPrefix
  rw [nI_hasPrefix, decide_eq_false h, if_neg (by decide)]

theorem nI_hasSuffix (c : UInt8) (L : List UInt8) : Lib.hasSuffix L [c] = decide ((nI L).getLast? = some (c.toNat : Int)) := by
  unfold Lib.hasSuffix
  have h : ∀ b : Bool, (b = true ↔ (nI L).getLast? = some (c.toNat : Int)) → b = decide ((nI L).getLast? = some (c.toNat : Int)) := by
    intro b hb
    cases b
    · rw [eq_comm, decide_eq_false_iff_not]; intro h; exact absurd (hb.2 h) (by decide)
    · rw [eq_comm, decide_eq_true_eq]; exact hb.1 rfl
  apply h
  rw [List.isSuffixOf_iff_suffix]
  constructor
  · rintro ⟨a, rfl⟩
    simp [nI]
  · intro h
    rcases List.eq_nil_or_concat L with rfl | ⟨a, x, rfl⟩
    · simp [nI] at h
    · simp only [nI, List.concat_eq_append, List.map_append, List.map_cons, List.map_nil, List.getLast?_append, List.getLast?_singleton, Option.some_or, Option.some.injEq] at h
      have : x = c := UInt8.toNat_inj.1 (by omega)
      subst this
      exact ⟨a, by simp⟩

theorem nI_trimSuffix (c : UInt8) (L : List UInt8) (h : (nI L).getLast? = some (c.toNat : Int)) : nI (Lib.trimSuffix L [c]) = (nI L).dropLast := by
  unfold Lib.trimSuffix
  rw [nI_hasSuffix, decide_eq_true h, if_pos rfl]
  simp only [nI, List.length_singleton, List.dropLast_eq_take, List.length_map, List.map_take]

theorem trimSuffix_no (c : UInt8) (L : List UInt8) (h : (nI L).getLast? ≠ some (c.toNat : Int)) : Lib.trimSuffix L [c] = L := by
  unfold Lib.trimSuffix
  rw [nI_hasSuffix, decide_eq_false h, if_neg (by decide)]

/-! ### the place of a byte -/
theorem index_one (c : UInt8) : ∀ L : List UInt8, (Lib.index L [c] = -1 ∧ (c.toNat : Int) ∉ nI L) ∨ (∃ (i : Nat), Lib.index L [c] = i ∧ i < L.length ∧ (c.toNat : Int) ∉ (nI L).take i ∧ (nI L)[i]? = some (c.toNat : Int))
  | [] => .inl ⟨rfl, by simp [nI]⟩
  | x :: r => by
    by_cases h : c = x
    · subst h
      refine .inr ⟨0, by simp [Lib.index], by simp, by simp, by simp [nI]⟩
    · have hx : ¬ (c.toNat : Int) = (x.toNat : Int) := fun e => h (UInt8.toNat_inj.1 (by omega))
      have hp : ([c] : List UInt8).isPrefixOf (x :: r) = false := by simp [List.isPrefixOf_cons_cons, h]
      rcases index_one c r with ⟨h1, h2⟩ | ⟨i, h1, h2, h3, h4⟩
      · left
        refine ⟨by unfold Lib.index; rw [hp, h1]; rfl, ?_⟩
        simp only [nI, List.map_cons, List.mem_cons, not_or] at h2 ⊢
        exact ⟨hx, h2⟩
      · right
        refine ⟨i + 1, ?_, by simpa using h2, ?_, ?_⟩
        · unfold Lib.index
          rw [hp, h1]
          have : ((i : Int) == -1) = false := by rw [beq_eq_false_iff_ne]; omega
          simp [this]
        · simp only [nI, List.map_cons, List.take_succ_cons, List.mem_cons, not_or] at h3 ⊢
          exact ⟨hx, h3⟩
        · simpa [nI] using h4

theorem pnt_none : ∀ {L : List Int}, (46 : Int) ∉ L → pnt L = L.length
  | [], _ => rfl
  | x :: r, h => by
    simp only [List.mem_cons, not_or] at h
    have := pnt_none h.2
    unfold pnt at this ⊢
    rw [List.takeWhile_cons_of_pos (by simp; exact fun e => h.1 e.symm), List.length_cons, this, List.length_cons]

theorem pnt_split {L : List Int} {i : Nat} (h : (46 : Int) ∉ L.take i) (hi : L[i]? = some 46) : pnt L = i := by
  have e : L = L.take i ++ 46 :: L.drop (i + 1) := by
    conv => lhs; rw [← List.take_append_drop i L, pnt_on.list_cut hi]
  have hl : i < L.length := by
    rcases Nat.lt_or_ge i L.length with h' | h'
    · exact h'
    · rw [List.getElem?_eq_none h'] at hi; cases hi
  rw [e]
  unfold pnt
  rw [List.takeWhile_append_of_pos (by intro x hx; simp; rintro rfl; exact h hx), List.takeWhile_cons_of_neg (by simp), List.append_nil, List.length_take]
  omega

/-- strings.Cut at the point. -/
theorem cut_no {L : List UInt8} (h : pnt (nI L) = L.length) : Lib.cut L [46] = (L, [], false) := by
  rcases index_one 46 L with ⟨h1, _⟩ | ⟨i, h1, h2, h3, h4⟩
  · unfold Lib.cut; rw [h1, if_neg (by decide)]
  · have := pnt_split h3 h4
    omega

theorem cut_yes {L : List UInt8} (h : pnt (nI L) < L.length) : Lib.cut L [46] = (L.take (pnt (nI L)), L.drop (pnt (nI L) + 1), true) := by
  rcases index_one 46 L with ⟨_, h2⟩ | ⟨i, h1, h2, h3, h4⟩
  · have := pnt_none h2
    rw [nI_len] at this
    omega
  · have e := pnt_split h3 h4
    unfold Lib.cut
    rw [h1, if_pos (by omega), e]
    simp

/-! ### splits -/
theorem sp_none {c : Int} : ∀ {L : List Int} (cur : List Int), c ∉ L → sp c L cur = [cur ++ L]
  | [], cur, _ => by simp [sp]
  | x :: r, cur, h => by
    simp only [List.mem_cons, not_or] at h
    rw [sp, if_neg (fun e => h.1 e.symm), sp_none _ h.2]
    simp

theorem sp_hit {c : Int} : ∀ {a : List Int} (r cur : List Int), c ∉ a → sp c (a ++ c :: r) cur = (cur ++ a) :: sp c r []
  | [], r, cur, _ => by simp [sp]
  | x :: a, r, cur, h => by
    simp only [List.mem_cons, not_or] at h
    rw [List.cons_append, sp, if_neg (fun e => h.1 e.symm), sp_hit r _ h.2]
    simp

theorem splitB_sp (c : UInt8) : ∀ (n : Nat) (s : ByteArray), s.size ≤ n → (Lib.splitB ⟨#[c]⟩ 0 (Lib.countB s ⟨#[c]⟩) s).map strL = sp (c.toNat : Int) (strL s) [] := by
  intro n
  induction n with
  | zero =>
    intro s hs
    obtain rfl : s = ⟨#[]⟩ := str_ext (by rw [strL_empty]; exact List.eq_nil_of_length_eq_zero (by rw [strL_len]; omega))
    rfl
  | succ n ih =>
    intro s hs
    rcases index_one c s.data.toList with ⟨h1, h2⟩ | ⟨i, h1, h2, h3, h4⟩
    · rw [Lib.splitB_miss _ _ _ _ h1, strL_nI, sp_none _ h2]
      rfl
    · have h1' : Lib.indexB s ⟨#[c]⟩ = i := h1
      rw [Lib.countB_hit s ⟨#[c]⟩ i (Nat.le_refl _) h1', Nat.add_comm 1, Lib.splitB_hit _ _ _ _ i h1', List.map_cons]
      have hsz : (⟨#[c]⟩ : ByteArray).size = 1 := rfl
      rw [hsz, Nat.add_zero]
      have hl : i < s.size := by rw [← strL_len, strL_nI, nI_len]; exact h2
      rw [ih (s.extract (i + 1) s.size) (by rw [ByteArray.size_extract]; omega)]
      have e : strL s = (strL s).take i ++ (c.toNat : Int) :: (strL s).drop (i + 1) := by
        conv => lhs; rw [← List.take_append_drop i (strL s), pnt_on.list_cut (by rw [strL_nI]; exact h4)]
      conv => rhs; rw [e]
      rw [sp_hit _ _ (by rw [strL_nI]; exact h3), strL_extract, strL_extract, List.drop_zero, Nat.sub_zero, List.nil_append, show ((strL s).drop (i + 1)).take (s.size - (i + 1)) = (strL s).drop (i + 1) from List.take_of_length_le (by rw [List.length_drop, strL_len]; omega)]

/-! ### joins and copies -/
theorem nI_joinTail : ∀ r : List ByteArray, nI (Lib.joinTail [32] (r.map (·.data.toList))) = jn true r
  | [] => rfl
  | x :: r => by
    have := nI_joinTail r
    unfold Lib.joinTail at this ⊢
    rw [List.map_cons, List.map_cons, List.flatten_cons, nI_append, this, nI_append, jn, if_pos rfl, strL_nI]
    rfl

theorem nI_join (xs : List ByteArray) : nI (Lib.join (xs.map (·.data.toList)) [32]) = jn false xs := by
  cases xs with
  | nil => rfl
  | cons x r =>
    rw [List.map_cons, Lib.join_cons, nI_append, nI_joinTail, jn, if_neg (by decide), List.nil_append, strL_nI]

theorem nI_repeat (c : UInt8) : ∀ n : Nat, nI (Lib.repeatL [c] n) = List.replicate n (c.toNat : Int)
  | 0 => rfl
  | n + 1 => by
    rw [Lib.repeatL, nI_append, nI_repeat c n, List.replicate_succ]
    rfl

/-! ### numbers out of digits -/
/-- All digits. -/
def dgs (l : List Int) : Bool := l.all fun x => decide (48 ≤ x) && decide (x ≤ 57)

theorem dgs_cons (x : Int) (r : List Int) : dgs (x :: r) = ((decide (48 ≤ x) && decide (x ≤ 57)) && dgs r) := List.all_cons

/-- The number of some digits behind n. -/
def vals : List Int → Int → Int
  | [], n => n
  | x :: r, n => vals r (n * 10 + (x - 48))

theorem rnum_snd : ∀ (l : List Int) (n : Int), (rnum l n).2 = dgs l
  | [], n => rfl
  | x :: r, n => by
    rw [dgs_cons]
    by_cases h : x < 48 ∨ 57 < x
    · rw [rnum_no h]
      rcases h with h | h
      · rw [decide_eq_false (show ¬ 48 ≤ x by omega)]; rfl
      · rw [decide_eq_false (show ¬ x ≤ 57 by omega)]; simp
    · rw [rnum_on h, rnum_snd r, decide_eq_true (show 48 ≤ x by omega), decide_eq_true (show x ≤ 57 by omega)]
      simp

theorem vals_mono : ∀ (l : List Int) (a b : Int), a ≤ b → vals l a ≤ vals l b
  | [], a, b, h => h
  | x :: r, a, b, h => vals_mono r _ _ (by omega)

theorem vals_ge : ∀ (l : List Int) (a : Int), dgs l = true → 0 ≤ a → a ≤ vals l a
  | [], a, _, _ => Int.le_refl a
  | x :: r, a, h, h0 => by
    rw [dgs_cons] at h
    simp only [Bool.and_eq_true, decide_eq_true_eq] at h
    have := vals_ge r (a * 10 + (x - 48)) h.2 (by omega)
    rw [vals]
    omega

theorem rnum_vals : ∀ (l : List Int) (a : Int), dgs l = true → 0 ≤ a → (rnum l (min a 4611686018427387905)).1 = min (vals l a) 4611686018427387905
  | [], a, _, _ => rfl
  | x :: r, a, h, h0 => by
    rw [dgs_cons] at h
    simp only [Bool.and_eq_true, decide_eq_true_eq] at h
    rw [rnum_on (by omega), vals]
    have e : capn (min a 4611686018427387905) (x - 48) = min (a * 10 + (x - 48)) 4611686018427387905 := by
      unfold capn; split <;> omega
    rw [e, rnum_vals r _ h.2 (by omega)]

theorem numb_vals {l : List Int} (h : dgs l = true) : (numb l).1 = min (vals l 0) 4611686018427387905 := by
  unfold numb
  rw [if_pos (by rw [rnum_snd]; exact h)]
  have := rnum_vals l 0 h (by omega)
  rw [show min (0 : Int) 4611686018427387905 = 0 by decide] at this
  exact this

theorem numb_snd (l : List Int) : (numb l).2 = (dgs l && decide (0 < l.length)) := by
  unfold numb
  by_cases h : (rnum l 0).2 = true
  · rw [if_pos h, ← rnum_snd l 0, h]; rfl
  · rw [if_neg h, ← rnum_snd l 0]; simp at h; rw [h]; rfl

theorem parse_vals : ∀ (l : List UInt8) (acc : Nat), dgs (nI l) = true → acc < 18446744073709551616 →
    (vals (nI l) acc < 18446744073709551616 ∧ Lib.parseUint10 acc l = .ok (vals (nI l) acc).toNat) ∨ (18446744073709551616 ≤ vals (nI l) acc ∧ Lib.parseUint10 acc l = .range)
  | [], acc, _, ha => .inl ⟨by simp only [nI, List.map_nil, vals]; omega, by simp [nI, vals, Lib.parseUint10]⟩
  | x :: r, acc, h, ha => by
    have hx := x.toNat_lt
    simp only [nI, List.map_cons] at h ⊢
    rw [dgs_cons] at h
    simp only [Bool.and_eq_true, decide_eq_true_eq] at h
    rw [vals, Lib.parseUint10, if_pos (by omega)]
    have e : ((acc : Int) * 10 + ((x.toNat : Int) - 48)) = ((acc * 10 + (x.toNat - 48) : Nat) : Int) := by omega
    rw [e]
    by_cases h1 : 1844674407370955162 ≤ acc
    · rw [if_pos h1]
      have := vals_ge (nI r) ((acc * 10 + (x.toNat - 48) : Nat) : Int) h.2 (by omega)
      unfold nI at this
      exact .inr ⟨by omega, rfl⟩
    · rw [if_neg h1]
      by_cases h2 : 18446744073709551616 ≤ acc * 10 + (x.toNat - 48)
      · rw [if_pos h2]
        have := vals_ge (nI r) ((acc * 10 + (x.toNat - 48) : Nat) : Int) h.2 (by omega)
        unfold nI at this
        exact .inr ⟨by omega, rfl⟩
      · rw [if_neg h2]
        exact parse_vals r _ h.2 (by omega)

/-- A decimal form without a sign. -/
def natB (l : List Int) : Bool := dgs l && decide (0 < l.length) && (decide (l.length = 1) || decide (l.head? ≠ some 48))

theorem natv_snd (l : List Int) : (natv l).2 = natB l := by unfold natv natB; rw [numb_snd]
theorem natv_fst {l : List Int} (h : natB l = true) : (natv l).1 = min (vals l 0) 4611686018427387905 := by
  unfold natB at h
  simp only [Bool.and_eq_true] at h
  unfold natv
  exact numb_vals h.1.1

theorem natB_dgs {l : List Int} (h : natB l = true) : dgs l = true ∧ 0 < l.length := by
  unfold natB at h
  simp only [Bool.and_eq_true, decide_eq_true_eq] at h
  exact h.1

theorem vals_zero {l : List Int} (h : natB l = true) (h0 : vals l 0 = 0) : l = [48] := by
  unfold natB at h
  simp only [Bool.and_eq_true, Bool.or_eq_true, decide_eq_true_eq] at h
  obtain ⟨⟨hd, hl⟩, h1⟩ := h
  match l, hl with
  | x :: r, _ =>
    rw [dgs_cons] at hd
    simp only [Bool.and_eq_true, decide_eq_true_eq] at hd
    rw [vals] at h0
    have := vals_ge r (0 * 10 + (x - 48)) hd.2 (by omega)
    obtain rfl : x = 48 := by omega
    rcases h1 with h1 | h1
    · cases r with
      | nil => rfl
      | cons => simp at h1
    · simp at h1

/-- Atoi of a decimal form without a sign. -/
theorem atoi_nat {l : List UInt8} (h : natB (nI l) = true) :
    (vals (nI l) 0 < 9223372036854775808 ∧ Lib.atoiAll l = .ok (vals (nI l) 0)) ∨ (9223372036854775808 ≤ vals (nI l) 0 ∧ Lib.atoiAll l = .range) := by
  obtain ⟨hd, hl⟩ := natB_dgs h
  match l, hl with
  | x :: r, _ =>
    have hx : 48 ≤ x.toNat ∧ x.toNat ≤ 57 := by
      simp only [nI, List.map_cons] at hd
      rw [dgs_cons] at hd
      simp only [Bool.and_eq_true, decide_eq_true_eq] at hd
      omega
    have hp := parse_vals (x :: r) 0 hd (by omega)
    have h0 := vals_ge (nI (x :: r)) 0 hd (by omega)
    unfold Lib.atoiAll Lib.parseMag
    simp only
    rw [if_neg (show ¬ (x.toNat = 43 ∨ x.toNat = 45) by omega), if_neg (by simp)]
    simp only [Int.ofNat_zero] at hp
    rcases hp with ⟨h1, h2⟩ | ⟨h1, h2⟩
    · rw [h2]
      simp only
      by_cases h9 : 9223372036854775808 ≤ vals (nI (x :: r)) 0
      · rw [if_pos (by omega)]
        exact .inr ⟨h9, rfl⟩
      · rw [if_neg (by omega), if_neg (by omega), if_neg (by omega)]
        exact .inl ⟨by omega, by congr 1; omega⟩
    · rw [h2]
      exact .inr ⟨by omega, rfl⟩

/-- Atoi of one behind a minus. -/
theorem atoi_neg {l : List UInt8} (h : natB (nI l) = true) :
    (vals (nI l) 0 ≤ 9223372036854775808 ∧ Lib.atoiAll (45 :: l) = .ok (-(vals (nI l) 0))) ∨ (9223372036854775808 < vals (nI l) 0 ∧ Lib.atoiAll (45 :: l) = .range) := by
  obtain ⟨hd, hl⟩ := natB_dgs h
  have hp := parse_vals l 0 hd (by omega)
  have h0 := vals_ge (nI l) 0 hd (by omega)
  unfold Lib.atoiAll Lib.parseMag
  simp only
  have e45 : (45 : UInt8).toNat = 45 := rfl
  have e1 : (if (45 : UInt8).toNat = 43 ∨ (45 : UInt8).toNat = 45 then l else 45 :: l) = l := if_pos (.inr e45)
  rw [e1, if_neg (by rintro rfl; simp [nI] at hl)]
  simp only [Int.ofNat_zero] at hp
  rcases hp with ⟨h1, h2⟩ | ⟨h1, h2⟩
  · rw [h2]
    simp only [e45]
    by_cases h9 : 9223372036854775808 < vals (nI l) 0
    · rw [if_neg (by simp), if_pos (by simp; omega)]
      exact .inr ⟨h9, rfl⟩
    · rw [if_neg (by simp), if_neg (by simp; omega), if_pos trivial]
      exact .inl ⟨by omega, by congr 1; omega⟩
  · rw [h2]
    exact .inr ⟨by omega, rfl⟩

end Go.Proofs.YtnhnbblplnhmlaaGreatDoor
