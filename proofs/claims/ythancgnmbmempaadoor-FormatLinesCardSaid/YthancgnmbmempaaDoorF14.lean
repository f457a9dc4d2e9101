/- A fixed-point number is parsed from its decimal form, and that is the shortest; fields and lines put together again. No walk here. -/
import Derived.Test.YthancgnmbmempaaDoorF13
namespace Go.Proofs.YthancgnmbmempaaDoor
open Go.RowKit Go.Sort

/-- The decimal form behind the sign. -/
def body (X : Nat) : List Int := dg (X / 65536) ++ 46 :: frac ((X % 65536 : Nat) : Int)

theorem ffix_neg {x : Int} (h0 : -536870911 ≤ x) (h1 : x < 0) : ffix x = 45 :: body x.natAbs := by
  unfold ffix body
  rw [if_neg (by omega), if_pos h1]
  simp
theorem ffix_pos {x : Int} (h0 : 0 ≤ x) (h1 : x ≤ 536870911) : ffix x = body x.natAbs := by
  unfold ffix body
  rw [if_neg (by omega), if_neg (by omega)]
  simp

theorem head_dg (u : Nat) (b : List Int) : (dg u ++ b).head? ≠ some 45 := by
  have h := dg_no45 u
  obtain ⟨x, r, e⟩ := List.exists_cons_of_ne_nil (dg_ne u)
  rw [e] at h ⊢
  exact h

theorem body_head (X : Nat) : (body X).head? ≠ some 45 := head_dg _ _

theorem pfx_body {neg : Bool} {X : Nat} (h : X ≤ 536870911) : pfx neg (body X) = if neg = true ∧ X = 0 then (0, 3) else if neg = true then (-(X : Int), 0) else ((X : Int), 0) := by
  obtain ⟨f, _, hf, hr, hz⟩ := frac_zd (r := ((X % 65536 : Nat) : Int)) (by omega) (by omega)
  obtain ⟨_, k1, k5⟩ := kfirst_ok (r := ((X % 65536 : Nat) : Int)) (by omega) (by omega)
  unfold body
  rw [hz, pfx_form (by omega) hf k1 k5, hr, show ((X / 65536 : Nat) : Int) * 65536 + ((X % 65536 : Nat) : Int) = (X : Int) by omega, if_neg (show ¬ 536870911 < (X : Int) by omega)]
  simp only [Int.natCast_eq_zero]

/-- A saturated number is parsed from its decimal form. -/
theorem pfix_ffix {x : Int} (h0 : -536870911 ≤ x) (h1 : x ≤ 536870911) : pfix (ffix x) = (x, 0) := by
  unfold pfix
  by_cases hn : x < 0
  · rw [ffix_neg h0 hn, if_pos (show (45 :: body x.natAbs).head? = some (45 : Int) from rfl), List.tail_cons, pfx_body (by omega), if_neg (by simp; omega), if_pos rfl]
    simp only [Prod.mk.injEq, and_true]; omega
  · rw [ffix_pos (by omega) h1, if_neg (body_head _), pfx_body (by omega), if_neg (by simp), if_neg (by simp)]
    simp only [Prod.mk.injEq, and_true]; omega

/-- A minus sign in front. -/
theorem pfix_minus {x : Int} (h0 : 0 < x) (h1 : x ≤ 536870911) : pfix (45 :: ffix x) = (-x, 0) := by
  unfold pfix
  rw [ffix_pos (by omega) h1, if_pos (show (45 :: body x.natAbs).head? = some (45 : Int) from rfl), List.tail_cons, pfx_body (by omega), if_neg (by simp; omega), if_pos rfl]
  simp only [Prod.mk.injEq, and_true]; omega

theorem pfix_twice {x : Int} (h0 : -536870911 ≤ x) (h1 : x ≤ 0) : pfix (45 :: ffix x) = (0, 3) := by
  unfold pfix
  rw [if_pos (show (45 :: ffix x).head? = some (45 : Int) from rfl), List.tail_cons]
  by_cases hn : x < 0
  · rw [ffix_neg h0 hn]
    unfold body
    have hp : pnt (45 :: (dg (x.natAbs / 65536) ++ 46 :: frac ((x.natAbs % 65536 : Nat) : Int))) = (dg (x.natAbs / 65536)).length + 1 := by
      have := pnt_at (a := 45 :: dg (x.natAbs / 65536)) (b := frac ((x.natAbs % 65536 : Nat) : Int)) (by
        intro y hy
        rcases List.mem_cons.1 hy with rfl | hy
        · omega
        · exact dg_no46 _ y hy)
      rw [List.cons_append] at this
      rw [this]; rfl
    unfold pfx
    rw [hp, if_neg (by simp), List.take_succ_cons, if_pos]
    left
    unfold natv numb
    rw [rnum_no (by omega)]
    rfl
  · obtain rfl : x = 0 := by omega
    rw [ffix_pos (by omega) (by omega), pfx_body (by decide), if_pos ⟨rfl, rfl⟩]

/-! ### the shortest form -/
theorem kfr_min {r : Int} : ∀ n k j : Nat, k ≤ j → j < kfr r n k → kok r j = false
  | 0, k, j, h, h2 => by rw [kfr] at h2; omega
  | n + 1, k, j, h, h2 => by
    unfold kfr at h2
    by_cases ho : kok r k = true
    · rw [if_pos ho] at h2; omega
    · rw [if_neg ho] at h2
      by_cases e : j = k
      · subst e; simpa using ho
      · exact kfr_min n (k + 1) j (by omega) h2

theorem short_key {r : Int} {j g : Nat} (r0 : 0 ≤ r) (r1 : r ≤ 65535) (j1 : 1 ≤ j) (j4 : j ≤ 4) (hg : g < 10 ^ j) (h : rda ((g : Int) * 65536) (p10 j) = r) : kok r j = true := by
  obtain ⟨hf, _, _⟩ := fdig_is j1 (by omega) r0 r1
  have hp := p10_nat j
  have h4 := p10_le j4
  rw [p10_4] at h4
  unfold kok
  have key : fdig r j = g := by
    rw [hf]
    clear hf
    rcases p10_small j1 (by omega) with e | e | e | e | e <;> (rw [e] at h h4 hp ⊢; try omega) <;> (rw [rda_in _ _ (by omega) (by omega) (by omega) (by omega), rdv, if_pos (by omega)] at h; omega)
  rw [key, h]
  simp only [decide_true, Bool.and_true, decide_eq_true_eq]
  omega

theorem short_no {x : Int} (h0 : -536870911 ≤ x) (h1 : x ≤ 536870911) (h : (ffix x)[(ffix x).length - 2]? ≠ some 46) : pfix (ffix x).dropLast ≠ (x, 0) := by
  intro hpar
  obtain ⟨X, hX⟩ : ∃ X, x.natAbs = X := ⟨_, rfl⟩
  obtain ⟨f, _, hf, hr, hz⟩ := frac_zd (r := ((X % 65536 : Nat) : Int)) (by omega) (by omega)
  obtain ⟨_, k1, k5⟩ := kfirst_ok (r := ((X % 65536 : Nat) : Int)) (by omega) (by omega)
  have hmin := fun j => kfr_min (r := ((X % 65536 : Nat) : Int)) 4 1 j
  rw [show kfr ((X % 65536 : Nat) : Int) 4 1 = kfirst ((X % 65536 : Nat) : Int) from rfl] at hmin
  obtain ⟨k, hk⟩ : ∃ k, kfirst ((X % 65536 : Nat) : Int) = k := ⟨_, rfl⟩
  rw [hk] at hf hr hz k1 k5 hmin
  obtain ⟨S, neg, hS, hfx⟩ : ∃ (S : List Int) (neg : Bool), (S = if neg = true then [45] else []) ∧ ffix x = S ++ (dg (X / 65536) ++ 46 :: zd k f) ∧ (neg = true ↔ x < 0) := by
    by_cases hn : x < 0
    · exact ⟨[45], true, rfl, by rw [ffix_neg h0 hn, hX, body, hz]; rfl, by simp [hn]⟩
    · exact ⟨[], false, rfl, by rw [ffix_pos (by omega) h1, hX, body, hz]; rfl, by simp [hn]⟩
  obtain ⟨hfx, hneg⟩ := hfx
  rw [hfx] at h hpar
  have hzl := zd_len k f hf
  by_cases hk1 : k = 1
  · subst hk1
    obtain ⟨d, hd⟩ := List.length_eq_one_iff.1 hzl
    rw [hd] at h
    apply h
    have hlen : (S ++ dg (X / 65536) ++ [46, d]).length - 2 = (S ++ dg (X / 65536)).length := by
      rw [List.length_append (bs := [46, d])]; simp
    rw [← List.append_assoc, hlen, List.getElem?_append_right (Nat.le_refl _), Nat.sub_self]
    rfl
  · obtain ⟨j, rfl⟩ : ∃ j, k = j + 1 := ⟨k - 1, by omega⟩
    have hne : zd (j + 1) f ≠ [] := fun e => by rw [e] at hzl; simp at hzl
    have hd : (S ++ (dg (X / 65536) ++ 46 :: zd (j + 1) f)).dropLast = S ++ (dg (X / 65536) ++ 46 :: zd j (f / 10)) := by
      rw [List.dropLast_append_of_ne_nil (by simp), List.dropLast_append_of_ne_nil (by simp), List.dropLast_cons_of_ne_nil hne, zd_drop]
    rw [hd] at hpar
    have hf10 : f / 10 < 10 ^ j := by rw [Nat.pow_succ] at hf; omega
    have hform := fun neg => pfx_form (neg := neg) (u := X / 65536) (k := j) (f := f / 10) (by omega) hf10 (by omega) (by omega)
    obtain ⟨q, hq⟩ : ∃ q, rda (((f / 10 : Nat) : Int) * 65536) (p10 j) = q := ⟨_, rfl⟩
    rw [hq] at hform
    have hbad : q = ((X % 65536 : Nat) : Int) := by
      unfold pfix at hpar
      cases neg
      · simp only [Bool.false_eq_true, if_false, false_iff] at hS hneg
        subst hS
        rw [List.nil_append, if_neg (head_dg _ _), hform] at hpar
        simp only [Bool.false_eq_true, if_false, false_and] at hpar
        split at hpar <;> simp only [Prod.mk.injEq] at hpar <;> omega
      · simp only [if_true, true_iff] at hS hneg
        subst hS
        rw [if_pos (by rfl), List.cons_append, List.tail_cons, List.nil_append, hform] at hpar
        simp only [if_true, true_and] at hpar
        split at hpar
        · simp only [Prod.mk.injEq] at hpar; omega
        · split at hpar <;> simp only [Prod.mk.injEq] at hpar <;> omega
    have := short_key (by omega) (by omega) (by omega) (by omega) hf10 (hq.trans hbad)
    rw [hmin j (by omega) (by omega)] at this
    cases this

/-! ### fields and lines -/
theorem sp_ne (c : Int) : ∀ L cur : List Int, sp c L cur ≠ []
  | [], cur => by simp [sp]
  | x :: r, cur => by
    unfold sp
    split
    · simp
    · exact sp_ne c r _

theorem sp_join (c : Int) : ∀ (L cur P : List Int) (Q : List (List Int)), sp c L cur = P :: Q → P ++ Q.flatMap (c :: ·) = cur ++ L
  | [], cur, P, Q, h => by
    simp only [sp, List.cons.injEq] at h
    obtain ⟨rfl, rfl⟩ := h
    simp
  | x :: r, cur, P, Q, h => by
    unfold sp at h
    split at h
    · rename_i hx
      simp only [List.cons.injEq] at h
      obtain ⟨rfl, rfl⟩ := h
      obtain ⟨P2, Q2, e⟩ := List.exists_cons_of_ne_nil (sp_ne c r [])
      have := sp_join c r [] P2 Q2 e
      rw [List.nil_append] at this
      rw [e, List.flatMap_cons, List.cons_append, this, hx]
    · have := sp_join c r _ P Q h
      rw [this, List.append_assoc]; rfl

theorem jn_true : ∀ l : List ByteArray, jn true l = (l.map strL).flatMap (32 :: ·)
  | [] => rfl
  | s :: r => by rw [jn, jn_true r]; simp

/-- The fields of an accepted line, joined again, are the line. -/
theorem fields_join {L : List Int} {l : List ByteArray} (h : l.map strL = (flds L).1) (he : (flds L).2 = 0) : jn false l = L := by
  unfold flds at h he
  by_cases hL : L = []
  · rw [if_pos hL] at h
    subst hL
    rw [List.map_eq_nil_iff.1 h]; rfl
  · rw [if_neg hL] at h he
    split at he
    · rename_i hall
      rw [if_pos hall] at h
      obtain ⟨P, Q, e⟩ := List.exists_cons_of_ne_nil (sp_ne 32 L [])
      have hj := sp_join 32 L [] P Q e
      simp only at h
      rw [e] at h
      obtain ⟨s, r, rfl, rfl, rfl⟩ := List.map_eq_cons_iff.1 h
      rw [jn, jn_true, ← List.nil_append L, ← hj]
      simp
    · simp at he

theorem flat_shift : ∀ (Q : List (List Int)) (P : List Int), P ++ [10] ++ Q.flatMap (· ++ [10]) = P ++ Q.flatMap ((10 : Int) :: ·) ++ [10]
  | [], P => by simp
  | R :: Q, P => by
    have := flat_shift Q R
    rw [List.flatMap_cons, List.flatMap_cons]
    simp only [List.append_assoc, List.cons_append, List.nil_append] at this ⊢
    rw [this]

/-- The lines of an accepted text, with a line feed after each, are the text. -/
theorem lines_join {L : List Int} (he : (slin L).2 = 0) : (slin L).1.flatMap (· ++ [10]) = L := by
  unfold slin at he ⊢
  split at he
  · simp at he
  · rename_i hb
    rw [if_neg hb]
    split at he
    · rename_i hL
      rw [if_pos hL, hL]; rfl
    · rename_i hL
      rw [if_neg hL]
      split at he
      · rename_i hl
        rw [if_pos hl]
        obtain ⟨P, Q, e⟩ := List.exists_cons_of_ne_nil (sp_ne 10 L.dropLast [])
        have hj := sp_join 10 L.dropLast [] P Q e
        rw [List.nil_append] at hj
        simp only
        rw [e, List.flatMap_cons, flat_shift, hj]
        obtain ⟨ys, rfl⟩ := List.getLast?_eq_some_iff.1 hl
        rw [List.dropLast_concat]
      · simp at he

end Go.Proofs.YthancgnmbmempaaDoor
