/- A region that draws its order: a head of reads and calls that only add blocks, in whatever order, and behind it a tail in one forced order (a store into the call's own result, say). One walk of the text's order serves every order. No program is named here. -/
import Derived.Lib.QuietBelow
import Derived.StillTail
import Derived.BigQuiet
namespace Go.Proofs.Ytcnemjkcihlpeaa
set_option linter.unusedSimpArgs false
open Go.RowKit Go.Sort

section
variable {P : Program} {ops : Array Oper} {md : Region.Mode} {C : World → Prop}

/-- The head alone, in the order of the text. -/
theorem head_lex {Q : Act → Prop} (hs : Region.noSelect ops = true) : ∀ (l : List Oper) (k : Nat) (listed : Array Bool) (a : Act), (∀ j, j < l.length → l[j]? = ops[k + j]?) →
    Region.lexFrom md ops l.length k listed = true → wpQuiet P ops C Q l a → wpAnyQ P md ops C Q l.length listed a
  | [], _, _, _, _, hB, h => ⟨by simpa [Region.lexFrom] using hB, h⟩
  | o :: l, k, listed, a, hl, hB, h => by
    have h0 : ops[k]? = some o := by simpa using (hl 0 (by simp)).symm
    simp only [List.length_cons, Region.lexFrom, Bool.and_eq_true] at hB
    obtain ⟨⟨hr, hf⟩, hB'⟩ := hB
    obtain ⟨v, hy, hK⟩ := yieldsIn_of_qOp (P := P) (C := C) (K := wpQuiet P ops C Q l) h0 (by unfold qOp; simp only [h0]; exact h)
    exact wpAnyQ_first h0 (Region.noSelect_spec hs) l.length listed a (Region.free_spec h0 hf) (by simpa using hr) hy
      (head_lex hs l (k + 1) _ _ (fun j hj => by have := hl (j + 1) (by simpa using hj); simpa [Nat.add_assoc, Nat.add_comm 1 j] using this) hB' hK)

/-- t waits for j, or for one that waits for j. -/
def waits2 (md : Region.Mode) (ops : Array Oper) (t j : Nat) : Bool :=
  Region.waitsFor md ops t j || (List.range t).any fun k => Region.waitsFor md ops t k && Region.waitsFor md ops k j

/-- Every operation of the tail waits for all of the head, if need be by way of another; none of the head waits for a later one. -/
def tailB (md : Region.Mode) (ops : Array Oper) (n : Nat) : Bool :=
  (List.range ops.size).all fun t => if n ≤ t then (List.range n).all fun j => waits2 md ops t j else
    match ops[t]? with
    | some o => o.after.all fun e => !Region.binds md e || decide (e.on < t)
    | none => true

theorem tailB_tail {n t j : Nat} (h : tailB md ops n = true) (ht : t < ops.size) (hn : n ≤ t) (hj : j < n) : waits2 md ops t j = true := by
  have h1 := List.all_eq_true.1 h t (List.mem_range.2 ht)
  rw [if_pos hn] at h1
  exact List.all_eq_true.1 h1 j (List.mem_range.2 hj)
theorem tailB_head {n t : Nat} {o : Oper} (h : tailB md ops n = true) (ho : ops[t]? = some o) (hn : t < n) : ∀ e ∈ o.after, Region.binds md e = true → e.on < t := by
  have ht : t < ops.size := (Array.getElem?_eq_some_iff.1 ho).1
  have h1 := List.all_eq_true.1 h t (List.mem_range.2 ht)
  rw [if_neg (by omega), ho] at h1
  intro e he hb
  have h2 := Array.all_eq_true'.1 h1 e he
  rw [hb] at h2
  simpa using h2

theorem first_false : ∀ (h : List Bool), 0 < h.count false → ∃ i : Nat, h[i]? = some false ∧ ∀ j : Nat, j < i → h[j]? = some true
  | [], hc => by simp at hc
  | false :: _, _ => ⟨0, rfl, fun j hj => by omega⟩
  | true :: l, hc => by
    obtain ⟨i, h1, h2⟩ := first_false l (by simpa using hc)
    refine ⟨i + 1, by simpa using h1, fun j hj => ?_⟩
    cases j with
    | zero => rfl
    | succ j => simpa using h2 j (by omega)

theorem getD_app {h : List Bool} {g j : Nat} {b d : Bool} (hj : j < h.length) : (h ++ List.replicate g b).toArray.getD j d = h.getD j d := by
  simp [List.getElem?_append_left hj]

theorem getD_tail {h : List Bool} {g j : Nat} {b d : Bool} (hj : h.length ≤ j) (hj2 : j < h.length + g) : (h ++ List.replicate g b).toArray.getD j d = b := by
  simp [List.getElem?_append_right hj, show j - h.length < g by omega]

theorem set_app {h : List Bool} {g i : Nat} {b : Bool} (hi : i < h.length) : (h ++ List.replicate g b).toArray.setIfInBounds i true = (h.set i true ++ List.replicate g b).toArray := by
  simp [List.set_append_left i true hi]

theorem bridge {n g : Nat} {Lq : Act → Prop} {Q' : Exit → Act → World → Prop} {tail : List Oper} (hT : tailB md ops n = true) (hsz : ops.size = n + g)
    (hend : Region.seqB md ops g n (List.replicate n true ++ List.replicate g false).toArray = true) (htl : tail.length = g) (hto : ∀ j, tail[j]? = ops[n + j]?)
    (hL : ∀ a w, C w → Lq a → wpList P ops Q' tail a w) :
    ∀ (f : Nat) (h : List Bool) (a : Act), h.length = n → h.count false = f → (∀ k j, k < n → h[k]? = some true → Region.waitsFor md ops k j = true → h[j]? = some true) → wpAnyQ P md ops C Lq f (h ++ List.replicate g true).toArray a →
      ∀ w, C w → wpAny P md ops Q' (f + g) (h ++ List.replicate g false).toArray a w := by
  intro f
  induction f with
  | zero =>
    intro h a hn hc _ hq w hw
    have hh : h = List.replicate n true := by
      apply List.eq_replicate_iff.2
      refine ⟨hn, fun b hb => ?_⟩
      cases b with
      | true => rfl
      | false => exact absurd hb (List.count_eq_zero.1 hc)
    subst hh
    rw [Nat.zero_add]
    have := wpAny_of_seq (md := md) (Q' := Q') tail n _ a w hto (by rw [htl]; exact hend) (hL a w hw hq.2)
    rwa [htl] at this
  | succ f ih =>
    intro h a hn hc hcl hq w hw
    obtain ⟨i0, hi0, hb0⟩ := first_false h (by omega)
    have hi0n : i0 < n := by rw [← hn]; exact (List.getElem?_eq_some_iff.1 hi0).1
    rw [show f + 1 + g = (f + g) + 1 by omega]
    refine ⟨fun hr => ?_, fun i hi => ?_⟩
    · exfalso
      obtain ⟨o, ho⟩ : ∃ o, ops[i0]? = some o := ⟨_, Array.getElem?_eq_getElem (by omega)⟩
      have : i0 ∈ Region.ready md ops (h ++ List.replicate g false).toArray := mem_ready.2 ⟨by rw [getD_app (by omega)]; simp [hi0], o, ho, fun e he hb => by
        have := tailB_head hT ho hi0n e he hb
        rw [getD_app (by omega)]; simp [hb0 _ this]⟩
      rw [hr] at this; cases this
    · obtain ⟨hun, o, ho, hall⟩ := mem_ready.1 hi
      have hisz : i < ops.size := (Array.getElem?_eq_some_iff.1 ho).1
      by_cases hin : i < n
      · have hiT : i ∈ Region.ready md ops (h ++ List.replicate g true).toArray := mem_ready.2 ⟨by rw [getD_app (by omega)] at hun ⊢; exact hun, o, ho, fun e he hb => by
          have h1 := tailB_head hT ho hin e he hb
          have h2 := hall e he hb
          rw [getD_app (by omega)] at h2 ⊢; exact h2⟩
        have hf : h[i]'(by omega) = false := by
          rw [getD_app (by omega)] at hun
          simpa [show i < h.length by omega] using hun
        have h1 := hq.2 i hiT
        rw [set_app (by omega)] at h1 ⊢
        refine wpOp_of_qOp hw (fun a' w' hw' hk => ih (h.set i true) a' (by simpa using hn) ?_ ?_ hk w' hw') h1
        · rw [List.count_set (by omega), hf, hc]; simp
        · intro k j hk1 hk2 hk3
          have key : h[j]? = some true := by
            by_cases hki : k = i
            · subst hki
              obtain ⟨o', ho', e, he, hb, hon⟩ := Region.waitsFor_spec hk3
              have : o' = o := Option.some.inj (ho'.symm.trans ho)
              subst this
              have h3 := tailB_head hT ho hin e he hb
              have h2 := hall e he hb
              rw [hon] at h3
              rw [hon, getD_app (by omega)] at h2
              rw [List.getElem?_eq_getElem (by omega)]
              simpa [show j < h.length by omega] using h2
            · rw [List.getElem?_set_ne (by omega)] at hk2
              exact hcl k j hk1 hk2 hk3
          by_cases hji : j = i
          · subst hji; rw [List.getElem?_set_self (by omega)]
          · rw [List.getElem?_set_ne (by omega)]; exact key
      · exfalso
        have hw2 := tailB_tail hT hisz (by omega) hi0n
        unfold waits2 at hw2
        rw [Bool.or_eq_true] at hw2
        rcases hw2 with hd | hd
        · obtain ⟨o', ho', e, he, hb, hon⟩ := Region.waitsFor_spec hd
          have : o' = o := Option.some.inj (ho'.symm.trans ho)
          subst this
          have h2 := hall e he hb
          rw [hon, getD_app (by omega)] at h2
          simp [hi0] at h2
        · obtain ⟨k, hk, hkk⟩ := List.any_eq_true.1 hd
          have hk' : k < i := List.mem_range.1 hk
          rw [Bool.and_eq_true] at hkk
          obtain ⟨o', ho', e, he, hb, hon⟩ := Region.waitsFor_spec hkk.1
          have : o' = o := Option.some.inj (ho'.symm.trans ho)
          subst this
          have h2 := hall e he hb
          rw [hon] at h2
          by_cases hkn : k < n
          · rw [getD_app (by omega)] at h2
            have h3 : h[k]? = some true := by
              rw [List.getElem?_eq_getElem (by omega)]
              simpa [show k < h.length by omega] using h2
            have h4 := hcl k i0 hkn h3 hkk.2
            rw [hi0] at h4
            cases h4
          · rw [getD_tail (by omega) (by omega)] at h2
            cases h2

theorem wp_region_tail {id n : Nat} {Q : Exit → Act → World → Prop} {a : Act} {w : World} {l : List Oper} (hm : P.follows .mixedOrders = true)
    (hB : (Region.noSelect l.toArray && decide (n ≤ l.length) && tailB .any l.toArray n && Region.lexFrom .any l.toArray n 0 (List.replicate n false ++ List.replicate (l.length - n) true).toArray &&
      Region.seqB .any l.toArray (l.length - n) n (List.replicate n true ++ List.replicate (l.length - n) false).toArray) = true)
    (h : wpQuiet P l.toArray (fun w' => ∃ p : Regrown, w' = grow (redrawn w p.d) p.os) (fun a' => ∀ w', (∃ p : Regrown, w' = grow (redrawn w p.d) p.os) → wpList P l.toArray Q (l.drop n) a' w') (l.take n) a) : (Code.region id l.toArray true).wp P Q a w := by
  simp only [Bool.and_eq_true, decide_eq_true_eq] at hB
  obtain ⟨⟨⟨⟨hs, hn⟩, hT⟩, hlex⟩, hseq⟩ := hB
  have htl : (l.take n).length = n := by simp; omega
  have hq := head_lex (C := fun w' => ∃ p : Regrown, w' = grow (redrawn w p.d) p.os) (md := .any) hs (l.take n) 0 _ a (fun j hj => by
    have hj' : j < n := by rw [htl] at hj; exact hj
    simp [hj']) (by rw [htl]; exact hlex) h
  rw [htl] at hq
  refine wp_region_any hm ?_
  have := bridge (P := P) (md := .any) (Q' := Q) (tail := l.drop n) hT (g := l.length - n) (by simp; omega) hseq (by simp) (fun j => by simp [List.getElem?_drop]) (fun a' w' hw' hL => hL w' hw') n (List.replicate n false) a (by simp) (by simp) (fun k j hk h1 => by simp [hk] at h1) hq
    { w with drawn := w.drawn + 1 } ⟨⟨w.drawn + 1, #[]⟩, by rw [grow_empty]; rfl⟩
  rw [show n + (l.length - n) = l.toArray.size by simp; omega] at this
  rw [show List.replicate n false ++ List.replicate (l.length - n) false = List.replicate l.toArray.size false by simp; omega] at this
  rw [List.toArray_replicate] at this
  exact this
end

end Go.Proofs.Ytcnemjkcihlpeaa
