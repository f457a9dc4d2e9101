/- The lines of the tokens of a text. No function of a program is named here. -/
import Derived.Test.YtapijdimajgflaaDoorZ16
namespace Go.Proofs.YtapijdimajgflaaDoor
open Go.RowKit

/-- The lines ascend from a to e, that of the end, which is the last token and the only end. -/
def lnOk : Nat → Nat → List Tk → Prop
  | _, _, [] => False
  | a, e, x :: r => (r = [] ∧ x.k = 5 ∧ x.ln = (e : Int) ∧ a ≤ e) ∨ (r ≠ [] ∧ x.k ≠ 5 ∧ ∃ m : Nat, x.ln = (m : Int) ∧ a ≤ m ∧ lnOk m e r)

theorem lnOk_cons {a e : Nat} {x : Tk} {r : List Tk} : lnOk a e (x :: r) ↔ (r = [] ∧ x.k = 5 ∧ x.ln = (e : Int) ∧ a ≤ e) ∨ (r ≠ [] ∧ x.k ≠ 5 ∧ ∃ m : Nat, x.ln = (m : Int) ∧ a ≤ m ∧ lnOk m e r) := by rw [lnOk]

theorem lnOk_ne {a e : Nat} {l : List Tk} (h : lnOk a e l) : l ≠ [] := by rintro rfl; exact h

theorem lnOk_at {a e k : Nat} {l : List Tk} (h : lnOk a e (l.drop k)) : ∃ x, l[k]? = some x ∧ (a : Int) ≤ x.ln ∧ ∃ m : Nat, x.ln = (m : Int) ∧ ((k + 1 = l.length ∧ x.k = 5 ∧ m = e) ∨ (k + 1 < l.length ∧ x.k ≠ 5 ∧ lnOk m e (l.drop (k + 1)))) := by
  have hk : k < l.length := by
    rcases Nat.lt_or_ge k l.length with q | q
    · exact q
    · exact absurd (List.drop_eq_nil_of_le q) (lnOk_ne h)
  rw [List.drop_eq_getElem_cons hk, lnOk_cons] at h
  refine ⟨l[k], List.getElem?_eq_getElem hk, ?_⟩
  rcases h with ⟨h1, h2, h3, h4⟩ | ⟨h1, h2, m, h3, h4, h5⟩
  · have := congrArg List.length h1
    rw [List.length_drop] at this
    simp only [List.length_nil] at this
    exact ⟨by omega, e, h3, .inl ⟨by omega, h2, rfl⟩⟩
  · have : k + 1 < l.length := by
      rcases Nat.lt_or_ge (k + 1) l.length with q | q
      · exact q
      · exact absurd (List.drop_eq_nil_of_le q) h1
    exact ⟨by omega, m, h3, .inr ⟨this, h2, h5⟩⟩

theorem lnOk_last : ∀ {l : List Tk} {a e : Nat}, lnOk a e l → ∃ x, l[l.length - 1]? = some x ∧ x.k = 5 ∧ x.ln = (e : Int)
  | [], _, _, h => absurd rfl (lnOk_ne h)
  | x :: r, a, e, h => by
    rw [lnOk_cons] at h
    rcases h with ⟨h1, h2, h3, h4⟩ | ⟨h1, h2, m, h3, h4, h5⟩
    · subst h1
      exact ⟨x, rfl, h2, h3⟩
    · obtain ⟨y, hy, h6⟩ := lnOk_last h5
      have : 0 < r.length := List.length_pos_iff.2 h1
      refine ⟨y, ?_, h6⟩
      rw [List.length_cons, show r.length + 1 - 1 = (r.length - 1) + 1 by omega, List.getElem?_cons_succ]
      exact hy

theorem tkr_kind {r : List Int} (h : (tkr r).1 = 0) : (tkr r).2.1 ≠ 5 := by
  unfold tkr at h ⊢
  split at h
  · rename_i q
    rw [if_pos q]
    split at h
    · cases h
    · rename_i q2
      rw [if_neg q2]
      split at h
      · rename_i q3
        exact absurd h q3
      · rename_i q3
        rw [if_neg q3]
        show (nml r).1 ≠ 5
        unfold nml
        split <;> simp
  · rename_i q
    rw [if_neg q]
    split <;> simp

theorem lexF_lines : ∀ (f n ln : Nat) (r : List Int), r.length < f → (∀ x ∈ r, (0 : Int) ≤ x ∧ x ≤ 255) →
    ((lexF f n ln r).2.2 = 0 → lnOk ln (ln + nls r) (lexF f n ln r).1) ∧ ((lexF f n ln r).2.2 ≠ 0 → ∃ m : Nat, (lexF f n ln r).2.1 = (m : Int) ∧ ln ≤ m ∧ m ≤ ln + nls r)
  | 0, _, _, r, h, _ => by omega
  | f + 1, n, ln, r, h, hb => by
    have ih := lexF_lines f (n + 1) (ln + nls (r.take (skp false r)))
    have hk := skp_le false r
    have e0 : nls r = nls (r.take (skp false r)) + nls (r.drop (skp false r)) := by rw [← nls_app, List.take_append_drop]
    rw [lexF]
    simp only
    split
    · rename_i q
      refine ⟨fun _ => ?_, fun h => absurd rfl h⟩
      rw [lnOk_cons]
      rw [q] at e0
      have : nls [] = 0 := rfl
      exact .inl ⟨rfl, rfl, by show ((ln + nls (r.take (skp false r)) : Nat) : Int) = _; rw [e0, this]; rfl, by omega⟩
    · rename_i q
      split
      · exact ⟨fun h => absurd h (by simp), fun _ => ⟨_, rfl, by omega, by omega⟩⟩
      · rename_i q2
        split
        · exact ⟨fun h => absurd h (by simp), fun _ => ⟨_, rfl, by omega, by omega⟩⟩
        · split
          · rename_i q4
            exact ⟨fun h => absurd h q4, fun _ => ⟨_, rfl, by omega, by omega⟩⟩
          · rename_i q4
            have q4' : (tkr (r.drop (skp false r))).1 = 0 := by simpa using q4
            have hb2 : ∀ x ∈ r.drop (skp false r), (0 : Int) ≤ x ∧ x ≤ 255 := fun x hx => hb x (List.mem_of_mem_drop hx)
            have e1 : nls (r.drop (skp false r)) = nls ((r.drop (skp false r)).drop (tkr (r.drop (skp false r))).2.2.1) := by
              have := nls_app ((r.drop (skp false r)).take (tkr (r.drop (skp false r))).2.2.1) ((r.drop (skp false r)).drop (tkr (r.drop (skp false r))).2.2.1)
              rw [List.take_append_drop, tok_nls hb2 q2 q4'] at this
              omega
            have hp := tkr_pos q2 q4'
            have ih2 := ih ((r.drop (skp false r)).drop (tkr (r.drop (skp false r))).2.2.1) (by rw [List.length_drop, List.length_drop]; have : 0 < (r.drop (skp false r)).length := List.length_pos_iff.2 q; rw [List.length_drop] at this; omega) (fun x hx => hb2 x (List.mem_of_mem_drop hx))
            split
            · rename_i q5
              refine ⟨fun _ => ?_, fun h => absurd rfl h⟩
              have h6 := ih2.1 q5
              rw [lnOk_cons]
              exact .inr ⟨lnOk_ne h6, tkr_kind q4', _, rfl, by omega, by rw [e0, e1, ← Nat.add_assoc]; exact h6⟩
            · rename_i q5
              refine ⟨fun h => absurd h q5, fun _ => ?_⟩
              obtain ⟨m, h1, h2, h3⟩ := ih2.2 q5
              exact ⟨m, h1, by omega, by omega⟩

/-- The lines of a text that is not too long. -/
theorem lexv_lines {l : List Int} (h : l.length ≤ 16384) (hb : ∀ x ∈ l, (0 : Int) ≤ x ∧ x ≤ 255) :
    ((lexv l).2.2 = 0 → (lexv l).2.1 = 0 ∧ lnOk 1 (lns l) (lexv l).1) ∧ ((lexv l).2.2 ≠ 0 → (lexv l).1 = [] ∧ ∃ m : Nat, (lexv l).2.1 = (m : Int) ∧ 1 ≤ m ∧ m ≤ lns l) := by
  have e : lexv l = lexF (l.length + 1) 0 1 l := by unfold lexv; rw [if_neg (by omega)]
  have h1 := lexF_lines (l.length + 1) 0 1 l (by omega) hb
  have h2 := lexF_form (l.length + 1) 0 1 l (by omega)
  have hn : lns l = 1 + nls l := by unfold lns nls; omega
  rw [e, hn]
  exact ⟨fun q => ⟨h2.1 q, h1.1 q⟩, fun q => ⟨h2.2 q, h1.2 q⟩⟩

end Go.Proofs.YtapijdimajgflaaDoor
