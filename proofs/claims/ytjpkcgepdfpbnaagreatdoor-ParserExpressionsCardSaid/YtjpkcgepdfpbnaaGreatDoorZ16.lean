/- Lex of the reference. -/
import Derived.Test.YtjpkcgepdfpbnaaGreatDoorZ15
namespace Go.Proofs.YtjpkcgepdfpbnaaGreatDoor
open Go.RowKit Go.Sort Go.ChangeShapes Go.WideShapes
set_option linter.unusedVariables false

theorem nls_app (a b : List Int) : nls (a ++ b) = nls a + nls b := by unfold nls; exact List.count_append
theorem lns_take (l : List Int) (a b : Nat) : lns (l.take (a + b)) = lns (l.take a) + nls ((l.drop a).take b) := by
  unfold lns
  rw [List.take_add, List.count_append]
  unfold nls
  omega

theorem nls_dig (r : List Int) : nls (r.take (spn isDig r)) = 0 := nls_spn (by decide) r
theorem nls_wrd (r : List Int) : nls (r.take (spn isWrd r)) = 0 := nls_spn (by decide) r

theorem nml_nls {r : List Int} (hd : (r.head?).any isDig = true) : nls (r.take (nml r).2) = 0 := by
  unfold nml
  split
  · rename_i h
    have e := (num_fix hd h).1
    have h1 := nls_dig r
    have h2 := nls_dig (r.drop (spn isDig r + 1))
    show nls (r.take (spn isDig r + 1 + zfr r)) = 0
    rw [e, nls_app, h1]
    show 0 + nls (46 :: (r.drop (spn isDig r + 1)).take (zfr r)) = 0
    have : nls (46 :: (r.drop (spn isDig r + 1)).take (zfr r)) = nls ((r.drop (spn isDig r + 1)).take (zfr r)) := by unfold nls; rw [List.count_cons]; simp
    rw [this, Nat.zero_add]
    exact h2
  · exact nls_dig r

theorem sgk_sign : ∀ (k : Nat) (r : List Int), sgk k r ≠ 0 → sgI (r.take (sgk k r)) = true
  | 0, r, h => absurd rfl h
  | k + 1, r, h => by
    rw [sgk] at h ⊢
    split
    · rename_i q
      exact q
    · rename_i q
      rw [if_neg q] at h
      exact sgk_sign k r h

theorem sgl_sign {r : List Int} (h : sgl r ≠ 0) : sgI (r.take (sgl r)) = true := sgk_sign _ _ h

theorem tok_nls {r : List Int} (hb : ∀ x ∈ r, (0 : Int) ≤ x ∧ x ≤ 255) (h0 : ¬ (spn isWrd r = 0 ∧ sgl r = 0)) (h : (tkr r).1 = 0) : nls (r.take (tkr r).2.2.1) = 0 := by
  unfold tkr at h ⊢
  split at h
  · rename_i q
    rw [if_pos q]
    split at h
    · cases h
    · rename_i q2
      rw [if_neg q2]
      split at h
      · rename_i q3
        exact absurd h q3
      · rename_i q3
        rw [if_neg q3]
        exact nml_nls q
  · rename_i q
    rw [if_neg q]
    split
    · exact nls_wrd r
    · rename_i q2
      have hs : sgl r ≠ 0 := fun e => h0 ⟨by omega, e⟩
      have := (sgI_no10 _ (fun x hx => hb x (List.mem_of_mem_take hx)) (sgl_sign hs)).1
      show nls (r.take (sgl r)) = 0
      unfold nls
      exact List.count_eq_zero.2 this

/-- A sign's first byte is a sign. -/
theorem sgI_first (a b : Int) (h : sgI [a, b] = true) : sgI [a] = true := by
  unfold sgI at h ⊢
  simp only [List.map_cons, List.map_nil] at h ⊢
  generalize UInt8.ofNat a.toNat = x at h ⊢
  generalize UInt8.ofNat b.toNat = y at h
  unfold sgw at h ⊢
  simp only [List.cons.injEq, and_true, Bool.or_eq_true, beq_iff_eq, reduceCtorEq, and_false, false_or, or_false] at h ⊢
  rcases h with (((((⟨rfl, _⟩ | ⟨rfl, _⟩) | ⟨rfl, _⟩) | ⟨rfl, _⟩) | ⟨rfl, _⟩) | ⟨rfl, _⟩) | ⟨rfl, _⟩ <;> simp

theorem sgl_zero {r : List Int} (h : 1 ≤ r.length) : sgl r = 0 ↔ sgI (r.take 1) = false := by
  cases r with
  | nil => simp at h
  | cons a t =>
    cases t with
    | nil =>
      have : sgl [a] = if sgI [a] = true then 1 else 0 := rfl
      rw [this]
      show _ ↔ sgI [a] = false
      cases sgI [a] <;> simp
    | cons b t =>
      have e : sgl (a :: b :: t) = if sgI [a, b] = true then 2 else if sgI [a] = true then 1 else 0 := by
        unfold sgl
        rw [show min 2 (a :: b :: t).length = 2 by simp]
        rfl
      rw [e]
      show _ ↔ sgI [a] = false
      by_cases h2 : sgI [a, b] = true
      · rw [if_pos h2, sgI_first a b h2]
        simp
      · rw [if_neg h2]
        cases sgI [a] <;> simp

/-- Where the reference's loop stands. -/
def RxI (l : List Int) (f p : Nat) (out : List Tk) : Prop := ∃ ln, lns (l.take p) = ln ∧ LxI l f p ln out

theorem rx_next {l : List Int} (hb : ∀ x ∈ l, (0 : Int) ≤ x ∧ x ≤ 255) {f p ln : Nat} {out : List Tk} (I : LxI l f p ln out) (hl : lns (l.take p) = ln) (hp : p < l.length) (h : (scq (l.drop p) out.length).1 = 0) :
    ∃ g, f = g + 1 ∧ p + (tkr (l.drop p)).2.2.1 ≤ l.length ∧
      RxI l g (p + (tkr (l.drop p)).2.2.1 + skp false (l.drop (p + (tkr (l.drop p)).2.2.1))) (out ++ [⟨(tkr (l.drop p)).2.1, (l.drop p).take (tkr (l.drop p)).2.2.1, (tkr (l.drop p)).2.2.2, (ln : Nat)⟩]) := by
  obtain ⟨g, E, L, hg, h1, K, I2⟩ := lx_next I hp h
  obtain ⟨q1, q2, q3⟩ := scq_yes h
  rw [q3] at h1 K I2 h
  refine ⟨g, hg, h1, L, ?_, ?_⟩
  · obtain ⟨k1, k2⟩ := K
    rw [lns_take, lns_take, hl, tok_nls (fun x hx => hb x (List.mem_of_mem_drop hx)) q1 h]
    omega
  · rw [K.1]
    exact I2

theorem rx_start {l : List Int} (h : l.length ≤ 16384) : RxI l l.length (skp false l) [] := by
  obtain ⟨E, L, K, I⟩ := lx_start h
  obtain ⟨k1, k2⟩ := K
  rw [List.drop_zero] at k1 k2
  refine ⟨L, ?_, by rw [show skp false l = E by omega]; exact I⟩
  have := lns_take l 0 (skp false l)
  rw [Nat.zero_add, List.drop_zero] at this
  rw [this]
  show 1 + _ = L
  omega

end Go.Proofs.YtjpkcgepdfpbnaaGreatDoor
