/- Lexical analysis as a function on lists of bytes: separators, signs, numbers, tokens, the whole. No function of a program is named here. -/
import Derived.Test.YtjpkcgepdfpbnaaGreatDoorZMath
import Derived.Test.YtjpkcgepdfpbnaaGreatDoorZ2
import Derived.Test.YtjpkcgepdfpbnaaGreatDoorF7
namespace Go.Proofs.YtjpkcgepdfpbnaaGreatDoor
open Go.RowKit

/-- A token: its kind, its text, its value, its line. -/
structure Tk where
  k : Int
  t : List Int
  v : Int
  ln : Int

/-- Is it a sign? -/
def sgI (l : List Int) : Bool := sgw (l.map fun x => UInt8.ofNat x.toNat)

theorem sgI_str (s : ByteArray) : sgI (strL s) = sgw s.toList := by
  have e : (strL s).map (fun x => UInt8.ofNat x.toNat) = s.data.toList := by
    unfold strL
    rw [List.map_map]
    have : ∀ y ∈ s.data.toList, ((fun x : Int => UInt8.ofNat x.toNat) ∘ fun b : UInt8 => (b.toNat : Int)) y = y := by
      intro y _
      simp only [Function.comp, Int.toNat_natCast, UInt8.ofNat_toNat]
    rw [List.map_congr_left this, List.map_id']
  unfold sgI
  rw [e, ByteArray.toList_eq]

/-- The greatest length, at most k, of a sign at the beginning, 0 if there is none. -/
def sgk : Nat → List Int → Nat
  | 0, _ => 0
  | k + 1, r => if sgI (r.take (k + 1)) = true then k + 1 else sgk k r

/-- The length of the sign at the beginning, 0 if there is none. -/
def sgl (r : List Int) : Nat := sgk (min 2 r.length) r

theorem sgk_le : ∀ (k : Nat) (r : List Int), sgk k r ≤ k
  | 0, _ => Nat.le_refl _
  | k + 1, r => by
    have := sgk_le k r
    rw [sgk]
    split <;> omega

theorem sgk_yes {k : Nat} {r : List Int} (h : sgI (r.take (k + 1)) = true) : sgk (k + 1) r = k + 1 := by rw [sgk, if_pos h]
theorem sgk_no {k : Nat} {r : List Int} (h : sgI (r.take (k + 1)) = false) : sgk (k + 1) r = sgk k r := by rw [sgk, if_neg (by rw [h]; decide)]

/-- The number of bytes at the beginning that belong to separators; is the beginning in a comment? -/
def skp : Bool → List Int → Nat
  | _, [] => 0
  | true, c :: r => if c = 10 then skp false r + 1 else skp true r + 1
  | false, c :: r => if c = 10 ∨ c = 32 ∨ c = 9 then skp false r + 1 else if c = 47 ∧ r.head? = some 47 then skp true r + 1 else 0

theorem skp_le : ∀ (b : Bool) (l : List Int), skp b l ≤ l.length
  | _, [] => by simp [skp]
  | true, c :: r => by
    have h1 := skp_le true r
    have h2 := skp_le false r
    rw [skp, List.length_cons]
    split <;> omega
  | false, c :: r => by
    have h1 := skp_le true r
    have h2 := skp_le false r
    rw [skp, List.length_cons]
    split
    · omega
    · split <;> omega

theorem spn_cons (p : Int → Bool) (c : Int) (r : List Int) : spn p (c :: r) = if p c = true then spn p r + 1 else 0 := by
  unfold spn
  rw [List.takeWhile_cons]
  split <;> simp

theorem spn_nil (p : Int → Bool) : spn p [] = 0 := rfl

/-- A comment's bytes, up to the end of its line. -/
theorem skp_true (l : List Int) : skp true l = spn isLin l + skp false (l.drop (spn isLin l)) := by
  induction l with
  | nil => rfl
  | cons c r ih =>
    rw [spn_cons, skp]
    by_cases h : c = 10
    · subst h
      rw [if_pos rfl, if_neg (by decide), List.drop_zero, skp, if_pos (.inl rfl)]
      omega
    · rw [if_neg h, if_pos (by unfold isLin; simpa using h), List.drop_succ_cons, ih]
      omega

/-- What skip does at a byte. -/
theorem skp_ws {c : Int} {r : List Int} (h : c = 10 ∨ c = 32 ∨ c = 9) : skp false (c :: r) = skp false r + 1 := by rw [skp, if_pos h]
theorem skp_cm {c : Int} {r : List Int} (h : c = 47) (h2 : r.head? = some 47) : skp false (c :: r) = spn isLin (c :: r) + skp false ((c :: r).drop (spn isLin (c :: r))) := by
  subst h
  rw [skp, if_neg (by decide), if_pos ⟨rfl, h2⟩, spn_cons, if_pos (by decide), List.drop_succ_cons, skp_true]
  omega
theorem skp_no {c : Int} {r : List Int} (h : ¬ (c = 10 ∨ c = 32 ∨ c = 9)) (h2 : ¬ (c = 47 ∧ r.head? = some 47)) : skp false (c :: r) = 0 := by rw [skp, if_neg h, if_neg h2]

theorem skp_skp : ∀ (b : Bool) (l : List Int), skp false (l.drop (skp b l)) = 0
  | _, [] => by simp [skp]
  | true, c :: r => by
    rw [skp]
    split
    · exact skp_skp false r
    · exact skp_skp true r
  | false, c :: r => by
    rw [skp]
    split
    · exact skp_skp false r
    · split
      · exact skp_skp true r
      · rename_i h1 h2
        rw [List.drop_zero, skp_no h1 h2]

/-- Is the number with a point? -/
def fxd (r : List Int) : Bool := decide (r[spn isDig r]? = some 46) && (r[spn isDig r + 1]?).any isDig

/-- The kind and the length of the number at the beginning. -/
def nml (r : List Int) : Int × Nat := if fxd r = true then (3, spn isDig r + 1 + spn isDig (r.drop (spn isDig r + 1))) else (2, spn isDig r)

/-- The value of a number. -/
def vlu (k : Int) (t : List Int) : Int × Int :=
  if k = 3 then pfix t else if (pint t).2 ≠ 0 then (0, (pint t).2) else if 2147483647 < (pint t).1 then (0, 6) else ((pint t).1, 0)

/-- The error of the token at the beginning, its kind, its length, its value. -/
def tkr (r : List Int) : Int × Int × Nat × Int :=
  if (r.head?).any isDig = true then
    (if (r[(nml r).2]?).any isWrd = true then (3, 0, 0, 0)
     else if (vlu (nml r).1 (r.take (nml r).2)).2 ≠ 0 then ((vlu (nml r).1 (r.take (nml r).2)).2, 0, 0, 0) else (0, (nml r).1, (nml r).2, (vlu (nml r).1 (r.take (nml r).2)).1))
  else if 0 < spn isWrd r then (0, 1, spn isWrd r, 0) else (0, 4, sgl r, 0)

/-- The number of line feeds. -/
def nls (l : List Int) : Nat := l.count 10

/-- The tokens, the line, the error of what begins with a separator or not (n tokens are ahead, in line ln). -/
def lexF : Nat → Nat → Nat → List Int → List Tk × Int × Int
  | 0, _, _, _ => ([], 0, 0)
  | f + 1, n, ln, r0 =>
    let r := r0.drop (skp false r0)
    let m := ln + nls (r0.take (skp false r0))
    if r = [] then ([⟨5, [], 0, (m : Nat)⟩], 0, 0)
    else if spn isWrd r = 0 ∧ sgl r = 0 then ([], (m : Nat), 3)
    else if n = 4000 then ([], (m : Nat), 9)
    else if (tkr r).1 ≠ 0 then ([], (m : Nat), (tkr r).1)
    else
      let q := lexF f (n + 1) m (r.drop (tkr r).2.2.1)
      if q.2.2 = 0 then (⟨(tkr r).2.1, r.take (tkr r).2.2.1, (tkr r).2.2.2, (m : Nat)⟩ :: q.1, 0, 0) else ([], q.2.1, q.2.2)

/-- The result, with tokens ahead. -/
def pre (out : List Tk) (q : List Tk × Int × Int) : List Tk × Int × Int := if q.2.2 = 0 then (out ++ q.1, 0, 0) else ([], q.2.1, q.2.2)

/-- Lex. -/
def lexv (l : List Int) : List Tk × Int × Int := if 16384 < l.length then ([], 0, 5) else lexF (l.length + 1) 0 1 l

/-- The rest of the work, behind separators: out are the tokens ahead. -/
def lexG (f : Nat) (out : List Tk) (ln : Nat) (r : List Int) : List Tk × Int × Int :=
  if r = [] then (out ++ [⟨5, [], 0, (ln : Nat)⟩], 0, 0)
  else if spn isWrd r = 0 ∧ sgl r = 0 then ([], (ln : Nat), 3)
  else if out.length = 4000 then ([], (ln : Nat), 9)
  else if (tkr r).1 ≠ 0 then ([], (ln : Nat), (tkr r).1)
  else pre (out ++ [⟨(tkr r).2.1, r.take (tkr r).2.2.1, (tkr r).2.2.2, (ln : Nat)⟩]) (lexF f (out.length + 1) ln (r.drop (tkr r).2.2.1))

theorem pre_nil (q : List Tk × Int × Int) (h : q.2.2 = 0 → q.2.1 = 0) (h2 : q.2.2 ≠ 0 → q.1 = []) : pre [] q = q := by
  obtain ⟨a, b, c⟩ := q
  unfold pre
  simp only at h h2 ⊢
  split
  · rename_i hc
    rw [h hc, hc, List.nil_append]
  · rename_i hc
    rw [h2 hc]

theorem lexF_succ (f n ln : Nat) (r0 : List Int) (out : List Tk) (hn : out.length = n) : pre out (lexF (f + 1) n ln r0) = lexG f out (ln + nls (r0.take (skp false r0))) (r0.drop (skp false r0)) := by
  subst hn
  rw [lexF, lexG]
  simp only
  split
  · rfl
  · split
    · rfl
    · split
      · rfl
      · split
        · rename_i h
          unfold pre
          rw [if_neg h]
        · generalize lexF f (out.length + 1) _ _ = q
          obtain ⟨a, b, c⟩ := q
          simp only
          by_cases h : c = 0
          · subst h
            rw [if_pos rfl]
            unfold pre
            simp
          · rw [if_neg h]
            unfold pre
            simp only
            rw [if_neg h, if_neg h]

theorem lexF_form (f n ln : Nat) (r0 : List Int) (h : r0.length < f) : ((lexF f n ln r0).2.2 = 0 → (lexF f n ln r0).2.1 = 0) ∧ ((lexF f n ln r0).2.2 ≠ 0 → (lexF f n ln r0).1 = []) := by
  cases f with
  | zero => omega
  | succ f =>
    rw [lexF]
    simp only
    split
    · simp
    · split
      · simp
      · split
        · simp
        · split
          · rename_i h
            exact ⟨fun h2 => absurd h2 h, fun _ => rfl⟩
          · split
            · simp
            · rename_i h
              exact ⟨fun h2 => absurd h2 h, fun _ => rfl⟩

theorem lexv_start (l : List Int) (h : l.length ≤ 16384) : lexv l = lexG l.length [] (1 + nls (l.take (skp false l))) (l.drop (skp false l)) := by
  unfold lexv
  rw [if_neg (by omega), ← lexF_succ _ 0 _ _ [] rfl, pre_nil _ (lexF_form _ _ _ _ (by omega)).1 (lexF_form _ _ _ _ (by omega)).2]

theorem lexv_long (l : List Int) (h : 16384 < l.length) : lexv l = ([], 0, 5) := by unfold lexv; rw [if_pos h]

/-! ### A token's length -/

theorem sgl_le (r : List Int) : sgl r ≤ r.length := by
  have := sgk_le (min 2 r.length) r
  unfold sgl
  omega
theorem sgl_le2 (r : List Int) : sgl r ≤ 2 := by
  have := sgk_le (min 2 r.length) r
  unfold sgl
  omega

theorem spn_split (p : Int → Bool) (r : List Int) : spn p r < r.length ∨ spn p r = r.length := by have := spn_le p r; omega

theorem fxd_lt {r : List Int} (h : fxd r = true) : spn isDig r + 1 < r.length := by
  unfold fxd at h
  simp only [Bool.and_eq_true, decide_eq_true_eq] at h
  rcases Nat.lt_or_ge (spn isDig r + 1) r.length with q | q
  · exact q
  · rw [List.getElem?_eq_none q] at h
    simp at h

theorem nml_le (r : List Int) : (nml r).2 ≤ r.length := by
  unfold nml
  split
  · rename_i h
    have h1 := fxd_lt h
    have h2 := spn_le isDig (r.drop (spn isDig r + 1))
    rw [List.length_drop] at h2
    simp only
    omega
  · exact spn_le _ _

theorem dig_spn {r : List Int} (h : (r.head?).any isDig = true) : 1 ≤ spn isDig r := by
  cases r with
  | nil => simp at h
  | cons c r =>
    rw [spn_cons, if_pos (by simpa using h)]
    omega

theorem nml_pos {r : List Int} (h : (r.head?).any isDig = true) : 1 ≤ (nml r).2 := by
  have h1 := dig_spn h
  unfold nml
  split
  · simp only; omega
  · exact h1

theorem tkr_le (r : List Int) : (tkr r).2.2.1 ≤ r.length := by
  unfold tkr
  split
  · split
    · simp
    · split
      · simp
      · exact nml_le r
  · split
    · exact spn_le _ _
    · exact sgl_le _

theorem tkr_pos {r : List Int} (h : ¬ (spn isWrd r = 0 ∧ sgl r = 0)) (h2 : (tkr r).1 = 0) : 1 ≤ (tkr r).2.2.1 := by
  unfold tkr at h2 ⊢
  split at h2
  · rename_i q
    rw [if_pos q]
    split at h2
    · cases h2
    · rename_i q2
      rw [if_neg q2]
      split at h2
      · rename_i q3
        exact absurd h2 q3
      · rename_i q3
        rw [if_neg q3]
        exact nml_pos q
  · rename_i q
    rw [if_neg q]
    split
    · rename_i q2
      exact q2
    · rename_i q2
      show 1 ≤ sgl r
      omega

/-- A round of the loop: the token, the separators behind it. -/
theorem lexG_step {f : Nat} {out : List Tk} {ln : Nat} {r : List Int} (h0 : r ≠ []) (h1 : ¬ (spn isWrd r = 0 ∧ sgl r = 0)) (h2 : out.length ≠ 4000) (h3 : (tkr r).1 = 0) :
    lexG (f + 1) out ln r = lexG f (out ++ [⟨(tkr r).2.1, r.take (tkr r).2.2.1, (tkr r).2.2.2, (ln : Nat)⟩]) (ln + nls ((r.drop (tkr r).2.2.1).take (skp false (r.drop (tkr r).2.2.1)))) ((r.drop (tkr r).2.2.1).drop (skp false (r.drop (tkr r).2.2.1))) := by
  rw [lexG, if_neg h0, if_neg h1, if_neg h2, if_neg (by simpa using h3), lexF_succ _ _ _ _ _ (by simp)]

theorem lexG_end {f : Nat} {out : List Tk} {ln : Nat} : lexG f out ln [] = (out ++ [⟨5, [], 0, (ln : Nat)⟩], 0, 0) := by rw [lexG, if_pos rfl]
theorem lexG_bad {f : Nat} {out : List Tk} {ln : Nat} {r : List Int} (h0 : r ≠ []) (h1 : spn isWrd r = 0 ∧ sgl r = 0) : lexG f out ln r = ([], ((ln : Nat) : Int), 3) := by rw [lexG, if_neg h0, if_pos h1]
theorem lexG_full {f : Nat} {out : List Tk} {ln : Nat} {r : List Int} (h0 : r ≠ []) (h1 : ¬ (spn isWrd r = 0 ∧ sgl r = 0)) (h2 : out.length = 4000) : lexG f out ln r = ([], ((ln : Nat) : Int), 9) := by rw [lexG, if_neg h0, if_neg h1, if_pos h2]
theorem lexG_err {f : Nat} {out : List Tk} {ln : Nat} {r : List Int} (h0 : r ≠ []) (h1 : ¬ (spn isWrd r = 0 ∧ sgl r = 0)) (h2 : out.length ≠ 4000) (h3 : (tkr r).1 ≠ 0) : lexG f out ln r = ([], ((ln : Nat) : Int), (tkr r).1) := by rw [lexG, if_neg h0, if_neg h1, if_neg h2, if_pos h3]

/-! ### No line feed in a token -/

theorem nls_spn {p : Int → Bool} (hp : p 10 = false) (l : List Int) : nls (l.take (spn p l)) = 0 := by
  unfold nls
  rw [List.count_eq_zero]
  intro h
  obtain ⟨k, hk⟩ := List.mem_iff_getElem?.1 h
  rw [List.getElem?_take] at hk
  split at hk
  · rename_i q
    have := spn_in q hk
    rw [hp] at this
    cases this
  · cases hk

theorem sgI_no10 : ∀ (l : List Int), (∀ x ∈ l, 0 ≤ x ∧ x ≤ 255) → sgI l = true → (10 : Int) ∉ l ∧ (32 : Int) ∉ l := by
  intro l hr h
  have key : ∀ y : Nat, y = 10 ∨ y = 32 → UInt8.ofNat y ∉ l.map fun x : Int => UInt8.ofNat x.toNat := by
    intro y hy hm
    unfold sgI sgw at h
    generalize l.map (fun x : Int => UInt8.ofNat x.toNat) = m at h hm
    simp only [Bool.or_eq_true, beq_iff_eq] at h
    rcases hy with rfl | rfl
    · revert hm
      rcases h with ((((((((((((((((((((((((((((h | h) | h) | h) | h) | h) | h) | h) | h) | h) | h) | h) | h) | h) | h) | h) | h) | h) | h) | h) | h) | h) | h) | h) | h) | h) | h) | h) | h) <;> subst h <;> decide
    · revert hm
      rcases h with ((((((((((((((((((((((((((((h | h) | h) | h) | h) | h) | h) | h) | h) | h) | h) | h) | h) | h) | h) | h) | h) | h) | h) | h) | h) | h) | h) | h) | h) | h) | h) | h) | h) <;> subst h <;> decide
  exact ⟨fun hm => key 10 (.inl rfl) (List.mem_map.2 ⟨10, hm, rfl⟩), fun hm => key 32 (.inr rfl) (List.mem_map.2 ⟨32, hm, rfl⟩)⟩

end Go.Proofs.YtjpkcgepdfpbnaaGreatDoor
