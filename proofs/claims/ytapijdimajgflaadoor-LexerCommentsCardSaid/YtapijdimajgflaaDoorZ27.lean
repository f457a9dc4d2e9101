/- The text of tokens has the same tokens. No function of a program is named here. -/
import Derived.Test.YtapijdimajgflaaDoorZ26
namespace Go.Proofs.YtapijdimajgflaaDoor
open Go.RowKit
set_option linter.unusedVariables false

/-- The work behind separators. -/
def lexR (f n m : Nat) (r : List Int) : List Tk × Int × Int :=
  if r = [] then ([⟨5, [], 0, (m : Nat)⟩], 0, 0)
  else if spn isWrd r = 0 ∧ sgl r = 0 then ([], (m : Nat), 3)
  else if n = 4000 then ([], (m : Nat), 9)
  else if (tkr r).1 ≠ 0 then ([], (m : Nat), (tkr r).1)
  else if (lexF f (n + 1) m (r.drop (tkr r).2.2.1)).2.2 = 0 then (⟨(tkr r).2.1, r.take (tkr r).2.2.1, (tkr r).2.2.2, (m : Nat)⟩ :: (lexF f (n + 1) m (r.drop (tkr r).2.2.1)).1, 0, 0)
    else ([], (lexF f (n + 1) m (r.drop (tkr r).2.2.1)).2.1, (lexF f (n + 1) m (r.drop (tkr r).2.2.1)).2.2)

theorem lexF_R (f n ln : Nat) (r0 : List Int) : lexF (f + 1) n ln r0 = lexR f n (ln + nls (r0.take (skp false r0))) (r0.drop (skp false r0)) := by rw [lexF]; rfl

theorem lexR_end (f n m : Nat) : lexR f n m [] = ([⟨5, [], 0, (m : Nat)⟩], 0, 0) := by unfold lexR; rw [if_pos rfl]

/-- Where it goes well: an end, or a token and more. -/
theorem lexR_ok {f n m : Nat} {r : List Int} (h : (lexR f n m r).2.2 = 0) : r = [] ∨ (r ≠ [] ∧ ¬ (spn isWrd r = 0 ∧ sgl r = 0) ∧ n ≠ 4000 ∧ (tkr r).1 = 0 ∧ (lexF f (n + 1) m (r.drop (tkr r).2.2.1)).2.2 = 0 ∧
    lexR f n m r = (⟨(tkr r).2.1, r.take (tkr r).2.2.1, (tkr r).2.2.2, (m : Nat)⟩ :: (lexF f (n + 1) m (r.drop (tkr r).2.2.1)).1, 0, 0)) := by
  unfold lexR at h ⊢
  split at h
  · rename_i q
    exact .inl q
  · rename_i q
    split at h
    · cases h
    · rename_i q2
      split at h
      · cases h
      · rename_i q3
        split at h
        · rename_i q4
          exact absurd h q4
        · rename_i q4
          split at h
          · rename_i q5
            exact .inr ⟨q, q2, q3, by simpa using q4, q5, by rw [if_neg q, if_neg q2, if_neg q3, if_neg q4, if_pos q5]⟩
          · rename_i q5
            exact absurd h q5

theorem lexR_tok {f n m : Nat} {r : List Int} (q : r ≠ []) (q2 : ¬ (spn isWrd r = 0 ∧ sgl r = 0)) (q3 : n ≠ 4000) (q4 : (tkr r).1 = 0) (q5 : (lexF f (n + 1) m (r.drop (tkr r).2.2.1)).2.2 = 0) :
    lexR f n m r = (⟨(tkr r).2.1, r.take (tkr r).2.2.1, (tkr r).2.2.2, (m : Nat)⟩ :: (lexF f (n + 1) m (r.drop (tkr r).2.2.1)).1, 0, 0) := by
  unfold lexR
  rw [if_neg q, if_neg q2, if_neg q3, if_neg (by simpa using q4), if_pos q5]

theorem lexF_space (f n ln : Nat) (r : List Int) : lexF (f + 1) n ln (32 :: r) = lexF (f + 1) n ln r := by
  rw [lexF_R, lexF_R, skp_ws (.inr (.inl rfl)), List.drop_succ_cons, nls_cons, if_neg (by decide), Nat.zero_add]

theorem skp_zero {c : Int} {r : List Int} : skp false (c :: r) = 0 ↔ ¬ (c = 10 ∨ c = 32 ∨ c = 9) ∧ ¬ (c = 47 ∧ r.head? = some 47) := by
  constructor
  · intro h
    refine ⟨fun q => ?_, fun q => ?_⟩
    · rw [skp_ws q] at h; omega
    · rw [skp_cm q.1 q.2, spn_cons, if_pos (by rw [q.1]; decide)] at h; omega
  · rintro ⟨h1, h2⟩
    exact skp_no h1 h2

/-- In front of a token there is no separator, whatever stands behind it. -/
theorem skp_tok {r S : List Int} {m : Nat} (h : skp false r = 0) (hr : r ≠ []) (hm : 1 ≤ m) (hS : S.head? ≠ some 47) : skp false (r.take m ++ S) = 0 := by
  cases r with
  | nil => exact absurd rfl hr
  | cons c t =>
    obtain ⟨m, rfl⟩ : ∃ k, m = k + 1 := ⟨m - 1, by omega⟩
    rw [skp_zero] at h
    rw [List.take_succ_cons, List.cons_append, skp_zero]
    refine ⟨h.1, fun q => h.2 ⟨q.1, ?_⟩⟩
    have q2 := q.2
    cases t with
    | nil =>
      rw [List.take_nil, List.nil_append] at q2
      exact absurd q2 hS
    | cons d t =>
      cases m with
      | zero =>
        rw [List.take_zero, List.nil_append] at q2
        exact absurd q2 hS
      | succ m =>
        rw [List.take_succ_cons] at q2
        exact q2

theorem not_bad {r : List Int} (h : (tkr r).1 = 0) (hp : 1 ≤ (tkr r).2.2.1) : ¬ (spn isWrd r = 0 ∧ sgl r = 0) := by
  rintro ⟨h1, h2⟩
  have hd : ¬ (r.head?).any isDig = true := by
    rw [spn_word] at h1
    cases hh : r.head? with
    | none => simp
    | some b =>
      rw [hh] at h1
      simp [isWrd] at h1
      simp [h1.2]
  unfold tkr at hp
  rw [if_neg hd, h1, if_neg (by decide), h2] at hp
  simp at hp

/-- In another line. -/
def inLn (ln : Int) (x : Tk) : Tk := ⟨x.k, x.t, x.v, ln⟩

/-- The texts of all tokens but the last, with spaces between them. -/
def jtx : List Tk → List Int
  | [] => []
  | [_] => []
  | x :: y :: r => x.t ++ (if r = [] then [] else 32 :: jtx (y :: r))

theorem jtx_cons {x : Tk} {q : List Tk} (hq : q ≠ []) : ∃ S, jtx (x :: q) = x.t ++ S ∧ ((S = [] ∧ ∃ e, q = [e]) ∨ S = 32 :: jtx q) := by
  cases q with
  | nil => exact absurd rfl hq
  | cons y r =>
    refine ⟨_, rfl, ?_⟩
    by_cases h : r = []
    · subst h
      exact .inl ⟨rfl, y, rfl⟩
    · exact .inr (by rw [if_neg h])

theorem lexF_ne {f n ln : Nat} {r : List Int} (h : r.length < f) (hb : byt r) (hc : (lexF f n ln r).2.2 = 0) : (lexF f n ln r).1 ≠ [] := lnOk_ne ((lexF_lines f n ln r h hb).1 hc)

theorem lexF_back : ∀ (f n ln : Nat) (r : List Int), r.length < f → byt r → (lexF f n ln r).2.2 = 0 → ∀ f' ln' : Nat, (jtx (lexF f n ln r).1).length < f' →
    lexF f' n ln' (jtx (lexF f n ln r).1) = ((lexF f n ln r).1.map (inLn ln'), 0, 0)
  | 0, _, _, r, h, _, _ => by omega
  | f + 1, n, ln, r, h, hb, hc => by
    intro f' ln' hf'
    obtain ⟨f', rfl⟩ : ∃ k, f' = k + 1 := ⟨f' - 1, by omega⟩
    have hsk := skp_skp false r
    have hkl := skp_le false r
    rw [lexF_R f n ln r] at hc hf' ⊢
    have hbr : byt (r.drop (skp false r)) := hb.drop _
    have hrl : (r.drop (skp false r)).length ≤ r.length := by rw [List.length_drop]; omega
    generalize ln + nls (r.take (skp false r)) = m at *
    generalize r.drop (skp false r) = r1 at *
    rcases lexR_ok hc with rfl | ⟨q1, q2, q3, q4, q5, q6⟩
    · rw [lexR_end] at hf' ⊢
      show lexF (f' + 1) n ln' [] = _
      rw [lexF_R]
      show lexR f' n (ln' + 0) [] = _
      rw [lexR_end]
      rfl
    · rw [q6] at hf' ⊢
      have hp := tkr_pos q2 q4
      have hle := tkr_le r1
      have hlen : (r1.drop (tkr r1).2.2.1).length < f := by
        rw [List.length_drop]
        omega
      have hb2 : byt (r1.drop (tkr r1).2.2.1) := hbr.drop _
      have hne := lexF_ne hlen hb2 q5
      have ih := lexF_back f (n + 1) m (r1.drop (tkr r1).2.2.1) hlen hb2 q5
      have htk := tkr_take q2 q4
      have htl : (r1.take (tkr r1).2.2.1).length = (tkr r1).2.2.1 := by rw [List.length_take]; omega
      have htb : byt (r1.take (tkr r1).2.2.1) := hbr.take _
      have htn : r1.take (tkr r1).2.2.1 ≠ [] := by
        intro e
        rw [e] at htl
        simp at htl
        omega
      have hs0 := fun S hS => skp_tok (S := S) hsk q1 hp hS
      generalize lexF f (n + 1) m (r1.drop (tkr r1).2.2.1) = Q at *
      obtain ⟨S, hS, hS2⟩ := jtx_cons (x := ⟨(tkr r1).2.1, r1.take (tkr r1).2.2.1, (tkr r1).2.2.2, (m : Nat)⟩) hne
      rw [hS] at hf' ⊢
      simp only at hf' hS ⊢
      rw [List.length_append, htl] at hf'
      have hhd : S.head? ≠ some 47 := by
        rcases hS2 with ⟨rfl, _⟩ | rfl
        · simp
        · simp
      have htkr : tkr (r1.take (tkr r1).2.2.1 ++ S) = tkr r1 := by
        rcases hS2 with ⟨rfl, _⟩ | rfl
        · rw [List.append_nil]; exact htk
        · rw [tkr_app (.inr rfl) _ htn htb]; exact htk
      rw [lexF_R, hs0 S hhd, List.drop_zero, List.take_zero]
      show lexR f' n (ln' + 0) _ = _
      rw [Nat.add_zero]
      have hrest : lexF f' (n + 1) ln' ((r1.take (tkr r1).2.2.1 ++ S).drop (tkr r1).2.2.1) = (Q.1.map (inLn ln'), 0, 0) := by
        have e : (r1.take (tkr r1).2.2.1 ++ S).drop (tkr r1).2.2.1 = S := by
          rw [List.drop_append_of_le_length (by omega), List.drop_eq_nil_of_le (by omega), List.nil_append]
        rw [e]
        rcases hS2 with ⟨rfl, e0, he0⟩ | rfl
        · have := ih f' ln' (by rw [he0]; show 0 < f'; simp at hf'; omega)
          rw [he0] at this ⊢
          exact this
        · obtain ⟨g, rfl⟩ : ∃ k, f' = k + 1 := ⟨f' - 1, by simp at hf'; omega⟩
          rw [lexF_space]
          exact ih (g + 1) ln' (by simp at hf'; omega)
      rw [lexR_tok (by intro e; have := congrArg List.length e; rw [List.length_append, htl] at this; simp at this; omega) (not_bad (by rw [htkr]; exact q4) (by rw [htkr]; exact hp)) q3 (by rw [htkr]; exact q4) (by rw [htkr, hrest])]
      rw [htkr, hrest]
      have e2 : (r1.take (tkr r1).2.2.1 ++ S).take (tkr r1).2.2.1 = r1.take (tkr r1).2.2.1 := by
        rw [List.take_append_of_le_length (by omega), List.take_take, Nat.min_self]
      rw [e2]
      rfl

end Go.Proofs.YtapijdimajgflaaDoor
