/- Tokens and what stands behind them: no byte behind a delimiter changes a token; a token's text is that token. No function of a program is named here. -/
import Derived.Test.YtapijdimajgflaaDoorZ24
namespace Go.Proofs.YtapijdimajgflaaDoor
open Go.RowKit

/-- A byte that ends every token: a line feed, a space. -/
def dlm (c : Int) : Prop := c = 10 ∨ c = 32

def byt (l : List Int) : Prop := ∀ x ∈ l, (0 : Int) ≤ x ∧ x ≤ 255

theorem byt.drop {l : List Int} (h : byt l) (k : Nat) : byt (l.drop k) := fun x hx => h x (List.mem_of_mem_drop hx)
theorem byt.take {l : List Int} (h : byt l) (k : Nat) : byt (l.take k) := fun x hx => h x (List.mem_of_mem_take hx)

theorem dlm_dig {c : Int} (h : dlm c) : isDig c = false := by rcases h with rfl | rfl <;> decide
theorem dlm_wrd {c : Int} (h : dlm c) : isWrd c = false := by rcases h with rfl | rfl <;> decide

theorem spn_app {p : Int → Bool} {c : Int} (hc : p c = false) (X : List Int) : ∀ a : List Int, spn p (a ++ c :: X) = spn p a
  | [] => by rw [List.nil_append, spn_cons, if_neg (by rw [hc]; decide), spn_nil]
  | x :: a => by
    rw [List.cons_append, spn_cons, spn_cons, spn_app hc X a]

theorem get_app {a X : List Int} {c : Int} {q : Nat} (h : q ≤ a.length) : (a ++ c :: X)[q]? = if q < a.length then a[q]? else some c := by
  split
  · rename_i h2
    rw [List.getElem?_append_left h2]
  · rename_i h2
    obtain rfl : q = a.length := by omega
    rw [List.getElem?_append_right (Nat.le_refl _)]
    simp

theorem fxd_app {c : Int} (hc : dlm c) (a X : List Int) : fxd (a ++ c :: X) = fxd a := by
  have h1 := spn_le isDig a
  unfold fxd
  rw [spn_app (dlm_dig hc), get_app h1]
  by_cases q : spn isDig a < a.length
  · rw [if_pos q, get_app (show spn isDig a + 1 ≤ a.length by omega)]
    by_cases q2 : spn isDig a + 1 < a.length
    · rw [if_pos q2]
    · rw [if_neg q2, List.getElem?_eq_none (show a.length ≤ spn isDig a + 1 by omega)]
      simp [dlm_dig hc]
  · rw [if_neg q, List.getElem?_eq_none (show a.length ≤ spn isDig a by omega)]
    have : ¬ c = 46 := by rcases hc with rfl | rfl <;> decide
    simp [this]

theorem nml_app {c : Int} (hc : dlm c) (a X : List Int) : nml (a ++ c :: X) = nml a := by
  unfold nml
  rw [fxd_app hc, spn_app (dlm_dig hc)]
  by_cases h : fxd a = true
  · rw [if_pos h, if_pos h]
    have h1 := fxd_lt h
    rw [List.drop_append_of_le_length (by omega), spn_app (dlm_dig hc)]
  · rw [if_neg h, if_neg h]

theorem sgl_app {c : Int} (hc : dlm c) {a : List Int} (X : List Int) (ha : a ≠ []) (hb : byt a) : sgl (a ++ c :: X) = sgl a := by
  match a, ha with
  | [x], _ =>
    have hx := hb x (by simp)
    have h2 : sgI [x, c] = false := by
      cases e : sgI [x, c]
      · rfl
      · have := sgI_no10 [x, c] (by intro y hy; simp at hy; rcases hy with rfl | rfl; exact hx; rcases hc with rfl | rfl <;> decide) e
        rcases hc with rfl | rfl
        · exact absurd (by simp) this.1
        · exact absurd (by simp) this.2
    unfold sgl
    rw [show min 2 ([x] ++ c :: X).length = 1 + 1 by simp, show min 2 [x].length = 1 by simp]
    rw [sgk_no (r := [x] ++ c :: X) (by simpa using h2)]
    rfl
  | x :: y :: a, _ =>
    unfold sgl
    rw [show min 2 (x :: y :: a ++ c :: X).length = 2 by simp only [List.length_append, List.length_cons]; omega, show min 2 (x :: y :: a).length = 2 by simp only [List.length_cons]; omega]
    rfl

theorem head_app {a X : List Int} (ha : a ≠ []) : (a ++ X).head? = a.head? := by
  cases a with
  | nil => exact absurd rfl ha
  | cons x a => rfl

/-- The token does not hang on what stands behind the delimiter. -/
theorem tkr_app {c : Int} (hc : dlm c) {a : List Int} (X : List Int) (ha : a ≠ []) (hb : byt a) : tkr (a ++ c :: X) = tkr a := by
  have hm := nml_le a
  have ht : (a ++ c :: X).take (nml a).2 = a.take (nml a).2 := List.take_append_of_le_length hm
  have hg : ((a ++ c :: X)[(nml a).2]?).any isWrd = (a[(nml a).2]?).any isWrd := by
    rw [get_app hm]
    split
    · rfl
    · rw [List.getElem?_eq_none (by omega)]
      simp [dlm_wrd hc]
  unfold tkr
  rw [head_app ha, nml_app hc, hg, ht, spn_app (dlm_wrd hc), sgl_app hc X ha hb]

theorem spn_take {p : Int → Bool} (r : List Int) : ∀ m, spn p r ≤ m → spn p (r.take m) = spn p r := by
  induction r with
  | nil => intro m _; simp
  | cons x r ih =>
    intro m hm
    rw [spn_cons] at hm ⊢
    split at hm
    · rename_i h
      obtain ⟨m, rfl⟩ : ∃ k, m = k + 1 := ⟨m - 1, by omega⟩
      rw [List.take_succ_cons, spn_cons, if_pos h, if_pos h, ih m (by omega)]
    · rename_i h
      cases m with
      | zero => rw [if_neg h]; rfl
      | succ m => rw [List.take_succ_cons, spn_cons, if_neg h, if_neg h]

theorem head_take {r : List Int} {m : Nat} (h : 1 ≤ m) : (r.take m).head? = r.head? := by
  obtain ⟨m, rfl⟩ : ∃ k, m = k + 1 := ⟨m - 1, by omega⟩
  cases r <;> rfl

theorem nml_take {r : List Int} (hd : (r.head?).any isDig = true) : nml (r.take (nml r).2) = nml r := by
  have h1 := dig_spn hd
  by_cases hf : fxd r = true
  · have hn : nml r = (3, spn isDig r + 1 + zfr r) := by unfold nml; rw [if_pos hf]; rfl
    have hz : 1 ≤ zfr r := by
      have hl := fxd_lt hf
      unfold fxd at hf
      simp only [Bool.and_eq_true, decide_eq_true_eq] at hf
      unfold zfr
      apply dig_spn
      rw [List.head?_drop]
      exact hf.2
    rw [hn]
    simp only
    have hs : spn isDig (r.take (spn isDig r + 1 + zfr r)) = spn isDig r := spn_take r _ (by omega)
    have hf2 : fxd (r.take (spn isDig r + 1 + zfr r)) = true := by
      unfold fxd at hf ⊢
      rw [hs, List.getElem?_take_of_lt (by omega), List.getElem?_take_of_lt (by omega)]
      exact hf
    unfold nml
    rw [if_pos hf2, hs]
    have e : (r.take (spn isDig r + 1 + zfr r)).drop (spn isDig r + 1) = (r.drop (spn isDig r + 1)).take (zfr r) := by
      rw [List.drop_take, show spn isDig r + 1 + zfr r - (spn isDig r + 1) = zfr r by omega]
    rw [e, spn_take _ _ (by unfold zfr; exact Nat.le_refl _)]
    rfl
  · have hn : nml r = (2, spn isDig r) := by unfold nml; rw [if_neg hf]
    have h2 := spn_le isDig r
    rw [hn]
    simp only
    have hs : spn isDig (r.take (spn isDig r)) = spn isDig r := spn_take r _ (Nat.le_refl _)
    have hf2 : ¬ fxd (r.take (spn isDig r)) = true := by
      unfold fxd
      rw [hs, List.getElem?_eq_none (by rw [List.length_take]; omega)]
      simp
    unfold nml
    rw [if_neg hf2, hs]

theorem sgl_take {r : List Int} (h : sgl r ≠ 0) : sgl (r.take (sgl r)) = sgl r := by
  have h1 := sgl_le r
  have h2 := sgl_le2 r
  have hs := sgl_sign h
  have hl : (r.take (sgl r)).length = sgl r := by rw [List.length_take]; omega
  have : sgl r = 1 ∨ sgl r = 2 := by omega
  rcases this with e | e
  · rw [e] at hs hl ⊢
    unfold sgl
    rw [hl, show min 2 1 = 0 + 1 by rfl, sgk_yes (by rw [List.take_take]; exact hs)]
  · rw [e] at hs hl ⊢
    unfold sgl
    rw [hl, show min 2 2 = 1 + 1 by rfl, sgk_yes (by rw [List.take_take]; exact hs)]

/-- A token's text is that token. -/
theorem tkr_take {r : List Int} (h0 : ¬ (spn isWrd r = 0 ∧ sgl r = 0)) (h : (tkr r).1 = 0) : tkr (r.take (tkr r).2.2.1) = tkr r := by
  have hp := tkr_pos h0 h
  have hhd := head_take (r := r) hp
  by_cases hd : (r.head?).any isDig = true
  · have e : (tkr r).2.2.1 = (nml r).2 ∧ (vlu (nml r).1 (r.take (nml r).2)).2 = 0 ∧ ¬ (r[(nml r).2]?).any isWrd = true := by
      unfold tkr at h ⊢
      rw [if_pos hd] at h ⊢
      split at h
      · cases h
      · rename_i q
        rw [if_neg q]
        split at h
        · rename_i q2
          exact absurd h q2
        · rename_i q2
          rw [if_neg q2]
          exact ⟨rfl, by simpa using q2, q⟩
    obtain ⟨e1, e2, e3⟩ := e
    rw [e1] at hhd ⊢
    have hn := nml_take hd
    unfold tkr
    rw [hhd, if_pos hd, if_pos hd, hn, if_neg e3, List.take_take, Nat.min_self, List.getElem?_eq_none (show (r.take (nml r).2).length ≤ (nml r).2 by rw [List.length_take]; omega)]
    simp [e2]
  · by_cases hw : 0 < spn isWrd r
    · have e1 : (tkr r).2.2.1 = spn isWrd r := by unfold tkr; rw [if_neg hd, if_pos hw]
      rw [e1] at hhd ⊢
      unfold tkr
      rw [hhd, if_neg hd, if_neg hd, spn_take _ _ (Nat.le_refl _), if_pos hw, if_pos hw]
    · have e1 : (tkr r).2.2.1 = sgl r := by unfold tkr; rw [if_neg hd, if_neg hw]
      have hs : sgl r ≠ 0 := fun q => h0 ⟨by omega, q⟩
      have hw2 : spn isWrd (r.take (sgl r)) = 0 := by
        have : spn isWrd r = 0 := by omega
        rw [spn_take r _ (by omega), this]
      rw [e1] at hhd ⊢
      unfold tkr
      rw [hhd, if_neg hd, if_neg hd, hw2, if_neg (by decide), if_neg hw, sgl_take hs]

end Go.Proofs.YtapijdimajgflaaDoor
