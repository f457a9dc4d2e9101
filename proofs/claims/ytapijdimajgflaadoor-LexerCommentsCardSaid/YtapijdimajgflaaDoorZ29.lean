/- A comment in a line of its own. No function of a program is named here. -/
import Derived.Test.YtapijdimajgflaaDoorZ27
namespace Go.Proofs.YtapijdimajgflaaDoor
open Go.RowKit
set_option linter.unusedVariables false

/-- The tokens without their lines, and the error. -/
def ers (q : List Tk × Int × Int) : List (Int × List Int × Int) × Int := (q.1.map fun x => (x.k, x.t, x.v), q.2.2)

theorem lexR_ers {f f' n m m' : Nat} {r : List Int} (h : ∀ m m', ers (lexF f (n + 1) m (r.drop (tkr r).2.2.1)) = ers (lexF f' (n + 1) m' (r.drop (tkr r).2.2.1))) : ers (lexR f n m r) = ers (lexR f' n m' r) := by
  have h1 := h m m'
  unfold ers at h1
  simp only [Prod.mk.injEq] at h1
  unfold lexR
  split
  · rfl
  · split
    · rfl
    · split
      · rfl
      · split
        · rfl
        · rw [h1.2]
          split
          · unfold ers
            simp only [List.map_cons, h1.1]
          · unfold ers
            rfl

/-- Neither the line nor what is left to do matters. -/
theorem lexF_ers : ∀ (f f' n m m' : Nat) (r : List Int), r.length < f → r.length < f' → ers (lexF f n m r) = ers (lexF f' n m' r)
  | 0, _, _, _, _, _, h, _ => absurd h (by omega)
  | _ + 1, 0, _, _, _, _, _, h => absurd h (by omega)
  | f + 1, f' + 1, n, m, m', r, h, h' => by
    rw [lexF_R, lexF_R]
    by_cases hb : spn isWrd (r.drop (skp false r)) = 0 ∧ sgl (r.drop (skp false r)) = 0
    · unfold lexR
      split
      · rfl
      · rfl
    · by_cases he : (tkr (r.drop (skp false r))).1 = 0
      · have hp := tkr_pos hb he
        have hle := tkr_le (r.drop (skp false r))
        apply lexR_ers
        intro a b
        exact lexF_ers f f' (n + 1) a b _ (by rw [List.length_drop, List.length_drop] at *; omega) (by rw [List.length_drop, List.length_drop] at *; omega)
      · unfold lexR
        repeat' (first | rfl | split)

/-- The separators at the beginning of a ++ 10 :: X end in a, or go on behind the line feed. -/
theorem skp_app : ∀ (b : Bool) (a : List Int), (∀ X, skp b (a ++ 10 :: X) = a.length + 1 + skp false X) ∨ (∃ k, k < a.length ∧ ∀ X, skp b (a ++ 10 :: X) = k)
  | true, [] => .inl fun X => by rw [List.nil_append, skp, if_pos rfl]; simp; omega
  | false, [] => .inl fun X => by rw [List.nil_append, skp_ws (.inl rfl)]; simp; omega
  | true, c :: a => by
    by_cases h : c = 10
    · rcases skp_app false a with q | ⟨k, hk, q⟩
      · exact .inl fun X => by rw [List.cons_append, skp, if_pos h, q, List.length_cons]; omega
      · exact .inr ⟨k + 1, by rw [List.length_cons]; omega, fun X => by rw [List.cons_append, skp, if_pos h, q]⟩
    · rcases skp_app true a with q | ⟨k, hk, q⟩
      · exact .inl fun X => by rw [List.cons_append, skp, if_neg h, q, List.length_cons]; omega
      · exact .inr ⟨k + 1, by rw [List.length_cons]; omega, fun X => by rw [List.cons_append, skp, if_neg h, q]⟩
  | false, c :: a => by
    by_cases h : c = 10 ∨ c = 32 ∨ c = 9
    · rcases skp_app false a with q | ⟨k, hk, q⟩
      · exact .inl fun X => by rw [List.cons_append, skp, if_pos h, q, List.length_cons]; omega
      · exact .inr ⟨k + 1, by rw [List.length_cons]; omega, fun X => by rw [List.cons_append, skp, if_pos h, q]⟩
    · have hh : ∀ X : List Int, (c = 47 ∧ (a ++ 10 :: X).head? = some 47) ↔ (c = 47 ∧ a.head? = some 47) := fun X => by
        cases a with
        | nil => simp
        | cons d a => rfl
      by_cases h2 : c = 47 ∧ a.head? = some 47
      · rcases skp_app true a with q | ⟨k, hk, q⟩
        · exact .inl fun X => by rw [List.cons_append, skp, if_neg h, if_pos ((hh X).2 h2), q, List.length_cons]; omega
        · exact .inr ⟨k + 1, by rw [List.length_cons]; omega, fun X => by rw [List.cons_append, skp, if_neg h, if_pos ((hh X).2 h2), q]⟩
      · exact .inr ⟨0, by rw [List.length_cons]; omega, fun X => by rw [List.cons_append, skp, if_neg h, if_neg (fun q => h2 ((hh X).1 q))]⟩

/-- What stands behind a line feed matters only by its own tokens. -/
theorem ers_app (X Y : List Int) (hXY : ∀ n f f' m m', X.length < f → Y.length < f' → ers (lexF f n m X) = ers (lexF f' n m' Y)) :
    ∀ (k : Nat) (a : List Int), a.length ≤ k → byt a → ∀ n f f' m m', (a ++ 10 :: X).length < f → (a ++ 10 :: Y).length < f' → ers (lexF f n m (a ++ 10 :: X)) = ers (lexF f' n m' (a ++ 10 :: Y)) := by
  intro k
  induction k with
  | zero =>
    intro a ha hb n f f' m m' h h'
    obtain rfl : a = [] := List.eq_nil_of_length_eq_zero (by omega)
    rw [List.nil_append] at h h' ⊢
    rw [List.nil_append]
    rw [List.length_cons] at h h'
    obtain ⟨f, rfl⟩ : ∃ g, f = g + 1 := ⟨f - 1, by omega⟩
    obtain ⟨f', rfl⟩ : ∃ g, f' = g + 1 := ⟨f' - 1, by omega⟩
    have e : ∀ (Z : List Int) (f m : Nat), ∃ m2, lexF (f + 1) n m (10 :: Z) = lexF (f + 1) n m2 Z := fun Z f m => by
      refine ⟨m + 1, ?_⟩
      rw [lexF_R, lexF_R, skp_ws (.inl rfl), List.drop_succ_cons, nls_cons, if_pos rfl, Nat.add_assoc]
    obtain ⟨m2, e2⟩ := e X f m
    obtain ⟨m3, e3⟩ := e Y f' m'
    rw [e2, e3]
    exact hXY n _ _ _ _ (by omega) (by omega)
  | succ k ih =>
    intro a ha hb n f f' m m' h h'
    obtain ⟨f, rfl⟩ : ∃ g, f = g + 1 := ⟨f - 1, by omega⟩
    obtain ⟨f', rfl⟩ : ∃ g, f' = g + 1 := ⟨f' - 1, by omega⟩
    rw [List.length_append, List.length_cons] at h h'
    rcases skp_app false a with q | ⟨j, hj, q⟩
    · have e : ∀ (Z : List Int) (f m : Nat), (∀ X, skp false (a ++ 10 :: X) = a.length + 1 + skp false X) → ∃ m2, ers (lexF (f + 1) n m (a ++ 10 :: Z)) = ers (lexR f n m2 (Z.drop (skp false Z))) := fun Z f m q => by
        refine ⟨m + nls ((a ++ 10 :: Z).take (skp false (a ++ 10 :: Z))), ?_⟩
        rw [lexF_R]
        have : (a ++ 10 :: Z).drop (skp false (a ++ 10 :: Z)) = Z.drop (skp false Z) := by
          rw [q, show a.length + 1 + skp false Z = a.length + (1 + skp false Z) by omega, ← List.drop_drop, List.drop_left, Nat.add_comm 1, List.drop_succ_cons]
        rw [this]
      obtain ⟨m2, e2⟩ := e X f m q
      obtain ⟨m3, e3⟩ := e Y f' m' q
      rw [e2, e3]
      have h1 := hXY n (f + 1) (f' + 1) (m2) (m3) (by omega) (by omega)
      rw [lexF_R, lexF_R] at h1
      have l1 : ∀ (f n a b : Nat) (r : List Int), r.length < f + 1 → ers (lexR f n a r) = ers (lexR f n b r) := fun f n a b r hr => by
        by_cases hb : spn isWrd r = 0 ∧ sgl r = 0
        · unfold lexR
          split
          · rfl
          · rfl
        · by_cases he : (tkr r).1 = 0
          · have hp := tkr_pos hb he
            have hle := tkr_le r
            apply lexR_ers
            intro a b
            exact lexF_ers f f (n + 1) a b _ (by rw [List.length_drop]; omega) (by rw [List.length_drop]; omega)
          · unfold lexR
            repeat' (first | rfl | split)
      rw [l1 f n m2 (m2 + nls (X.take (skp false X))) _ (by rw [List.length_drop]; omega), l1 f' n m3 (m3 + nls (Y.take (skp false Y))) _ (by rw [List.length_drop]; omega)]
      exact h1
    · rw [lexF_R, lexF_R, q X, q Y, List.drop_append_of_le_length (by omega), List.drop_append_of_le_length (by omega)]
      have hbd : byt (a.drop j) := hb.drop j
      have hne : a.drop j ≠ [] := fun e => by have := congrArg List.length e; rw [List.length_drop] at this; simp at this; omega
      have hdl : (a.drop j).length = a.length - j := List.length_drop
      generalize m + nls ((a ++ 10 :: X).take j) = m1
      generalize m' + nls ((a ++ 10 :: Y).take j) = m2
      generalize a.drop j = a1 at *
      have hle := tkr_le a1
      have hne2 : ∀ Z : List Int, a1 ++ 10 :: Z ≠ [] := fun Z => by simp
      unfold lexR
      rw [if_neg (hne2 X), if_neg (hne2 Y), tkr_app (.inl rfl) X hne hbd, tkr_app (.inl rfl) Y hne hbd, spn_app (show isWrd 10 = false by decide), spn_app (show isWrd 10 = false by decide), sgl_app (.inl rfl) X hne hbd, sgl_app (.inl rfl) Y hne hbd]
      split
      · rfl
      · rename_i hb0
        split
        · rfl
        · split
          · rfl
          · rename_i he
            have he' : (tkr a1).1 = 0 := by simpa using he
            have hp := tkr_pos hb0 he'
            rw [List.take_append_of_le_length hle, List.take_append_of_le_length hle, List.drop_append_of_le_length hle, List.drop_append_of_le_length hle]
            have h1 := ih (a1.drop (tkr a1).2.2.1) (by rw [List.length_drop]; omega) (hbd.drop _) (n + 1) f f' m1 m2 (by rw [List.length_append, List.length_drop, List.length_cons]; omega) (by rw [List.length_append, List.length_drop, List.length_cons]; omega)
            unfold ers at h1
            simp only [Prod.mk.injEq] at h1
            rw [h1.2]
            split
            · unfold ers
              simp only [List.map_cons, h1.1]
            · unfold ers
              rfl

theorem skp_cmt : ∀ (c : List Int), (10 : Int) ∉ c → ∀ X, skp true (c ++ 10 :: X) = c.length + 1 + skp false X
  | [], _, X => by rw [List.nil_append, skp, if_pos rfl]; simp; omega
  | x :: c, h, X => by
    have hx : ¬ x = 10 := fun e => h (by simp [e])
    rw [List.cons_append, skp, if_neg hx, skp_cmt c (fun q => h (List.mem_cons_of_mem _ q)) X, List.length_cons]
    omega

/-- A comment in a line of its own changes nothing but lines. -/
theorem lexv_comment (a b c : List Int) (ha : byt a) (hc : (10 : Int) ∉ c) (hl : (a ++ 10 :: (47 :: 47 :: (c ++ 10 :: b))).length ≤ 16384) :
    ers (lexv (a ++ 10 :: b)) = ers (lexv (a ++ 10 :: (47 :: 47 :: (c ++ 10 :: b)))) := by
  have hl2 := hl
  simp only [List.length_append, List.length_cons] at hl2
  have e2 : ∀ l' : List Int, l'.length ≤ 16384 → lexv l' = lexF (l'.length + 1) 0 1 l' := fun l' h => by unfold lexv; rw [if_neg (by omega)]
  rw [e2 (a ++ 10 :: b) (by simp only [List.length_append, List.length_cons]; omega), e2 _ hl]
  refine ers_app _ _ (fun n f f' m m' h h' => ?_) a.length a (Nat.le_refl _) ha 0 _ _ 1 1 (by omega) (by omega)
  simp only [List.length_append, List.length_cons] at h'
  obtain ⟨g, rfl⟩ : ∃ g, f' = g + 1 := ⟨f' - 1, by omega⟩
  obtain ⟨f, rfl⟩ : ∃ g, f = g + 1 := ⟨f - 1, by omega⟩
  have hs : skp false (47 :: 47 :: (c ++ 10 :: b)) = c.length + 3 + skp false b := by
    rw [skp, if_neg (by decide), if_pos ⟨rfl, rfl⟩, skp, if_neg (by decide), skp_cmt c hc]
    omega
  have hd : (47 :: 47 :: (c ++ 10 :: b)).drop (c.length + 3 + skp false b) = b.drop (skp false b) := by
    rw [show c.length + 3 + skp false b = (c.length + (1 + skp false b)) + 1 + 1 by omega, List.drop_succ_cons, List.drop_succ_cons, ← List.drop_drop, List.drop_left, Nat.add_comm 1, List.drop_succ_cons]
  have e3 : ∃ m3, lexF (g + 1) n m' (47 :: 47 :: (c ++ 10 :: b)) = lexR g n m3 (b.drop (skp false b)) := by
    rw [lexF_R, hs, hd]
    exact ⟨_, rfl⟩
  obtain ⟨m3, e3⟩ := e3
  rw [e3]
  have h1 := lexF_ers (f + 1) (g + 1) n m m3 b h (by omega)
  have h4 := lexF_ers (g + 1) (g + 1) n (m3 + 0) (m3 + 0) b (by omega) (by omega)
  rw [h1, lexF_R]
  have hk := skp_le false b
  by_cases hb : spn isWrd (b.drop (skp false b)) = 0 ∧ sgl (b.drop (skp false b)) = 0
  · unfold lexR
    split
    · rfl
    · rfl
  · by_cases he : (tkr (b.drop (skp false b))).1 = 0
    · have hp := tkr_pos hb he
      have hle := tkr_le (b.drop (skp false b))
      apply lexR_ers
      intro x y
      exact lexF_ers g g (n + 1) x y _ (by rw [List.length_drop, List.length_drop] at *; omega) (by rw [List.length_drop, List.length_drop] at *; omega)
    · unfold lexR
      repeat' (first | rfl | split)

end Go.Proofs.YtapijdimajgflaaDoor
