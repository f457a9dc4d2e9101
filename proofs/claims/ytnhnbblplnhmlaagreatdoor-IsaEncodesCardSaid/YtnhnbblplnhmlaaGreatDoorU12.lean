/- Append of numbers, beside a block that stays. No function of a program is named here. -/
import Derived.Test.YtnhnbblplnhmlaaGreatDoorU7
namespace Go.Proofs.YtnhnbblplnhmlaaGreatDoor
set_option linter.unusedSimpArgs false
open Go.RowKit Go.Sort Go.ChangeShapes Go.WideShapes
set_option linter.unusedVariables false

section
variable {P : Program} {ops : Array Oper} {rest : List Oper} {o : Oper} {a : Act} {Q : Exit → Act → World → Prop}

/-- 'append(s, xs...)' of numbers; a block that is not the own row's stays, and is not the new row's. -/
theorem appIO (W : World) (hgd : o.guard = none) (s x : Operand) (t : TypeId) (ho : o.op = .call { callee := .builtin .append, args := #[s, x], argTypes := #[t, t] })
    {e : TypeId} {k : IntKind} {bytes : Nat} (E : Elem P t e k bytes) {base n c : Nat} {A : Option Addr} {l : List Int} (own : Own W base e k A n c l) (hs : a.eval s = .slice A n c) (b2 : Nat) (hb2 : b2 < W.heap.size) (hne : (Value.slice A n c).ownBlock ≠ some b2)
    {B m d : Nat} {A2 : Option Addr} {l2 : List Int} (R : Rd W B k A2 m l2) (hx : a.eval x = .slice A2 m d) (h63 : n + m ≤ maxLen) (hb : (n + m) * bytes ≤ 140737488355328)
    (h : ∀ A' n' c' W1, Own W1 base e k A' n' c' (l ++ l2) → Below base W W1 → W1.heap[b2]? = W.heap[b2]? → W.heap.size ≤ W1.heap.size → (Value.slice A' n' c').ownBlock ≠ some b2 → wpList P ops Q rest (a.put o.dst (.slice A' n' c')) W1) : wpList P ops Q (o :: rest) a W := by
  refine wpList_plain hgd fun K hK => ?_
  have hrun : ∃ A' c' W1, (Builtin.append_ #[t, t] o.type #[.slice A n c, .slice A2 m d]).run P W = .ok (.slice A' (n + m) c') W1 ∧ Own W1 base e k A' (n + m) c' (l ++ l2) ∧ Below base W W1 ∧ W1.heap[b2]? = W.heap[b2]? ∧ W.heap.size ≤ W1.heap.size ∧ (Value.slice A' (n + m) c').ownBlock ≠ some b2 := by
    obtain ⟨ht, i, hi, hz, hsize, hby⟩ := E
    have hrng : ∀ x ∈ l ++ l2, k.min ≤ x ∧ x ≤ k.max := by
      intro x hx
      rcases List.mem_append.1 hx with hx | hx
      · exact own.2.1 x hx
      · exact R.2.1 x hx
    by_cases hm : m = 0
    · subst hm
      have hl2 : l2 = [] := List.eq_nil_of_length_eq_zero R.1
      subst hl2
      rcases A2 with _ | ad
      · exact ⟨A, c, W, run_append_of_nil' W base t _ e i 1 ht hi _ n _ own.1 d, by simpa using own, Below.refl _ _, rfl, Nat.le_refl _, hne⟩
      · obtain ⟨v', w', hrun, h2, h3, _, h5⟩ := run_append_own_at (P := P) W base t o.type e i (.int k 0) 1 bytes ht hi hz hsize hby rfl (by decide) _ n _ own.1 ad 0 d [] rfl (by simp) (by simp) h63 hb own.2.2
        obtain ⟨A', c', rfl⟩ := form_of_own h2
        refine ⟨A', c', w', hrun, ⟨by simpa using h2, hrng, Nat.le_trans own.2.2 h3.size⟩, (Below.refl _ _).grown h3 own.2.2 fun g hg => (own.1.lt g hg).1, h3.block b2 hb2 (fun q => hne q.symm), h3.size, ?_⟩
        rcases h5 with h5 | h5
        · rw [h5]; exact hne
        · rw [h5]; intro q; simp at q; omega
    · obtain ⟨b, off, rfl, _, hc⟩ := R.2.2 (by omega)
      obtain ⟨v', w', hrun, h2, h3, _, h5⟩ := run_append_own_at (P := P) W base t o.type e i (.int k 0) 1 bytes ht hi hz hsize hby rfl (by decide) _ n _ own.1 ⟨b, off, none⟩ m d (l2.map (Value.int k)) (by simp [R.1])
        (fun j u hu => by
          rw [List.getElem?_map, Option.map_eq_some_iff] at hu
          obtain ⟨x, hx, rfl⟩ := hu
          rw [add_plain']
          exact hc j x hx) (oneCell_ints k l2) h63 hb own.2.2
      obtain ⟨A', c', rfl⟩ := form_of_own h2
      refine ⟨A', c', w', hrun, ⟨by simpa using h2, hrng, Nat.le_trans own.2.2 h3.size⟩, (Below.refl _ _).grown h3 own.2.2 fun g hg => (own.1.lt g hg).1, h3.block b2 hb2 (fun q => hne q.symm), h3.size, ?_⟩
      rcases h5 with h5 | h5
      · rw [h5]; exact hne
      · rw [h5]; intro q; simp at q; omega
  obtain ⟨A', c', W1, hrun, h2, h3, h4, h5, h6⟩ := hrun
  unfold Oper.wp execOp
  simp only [ho, resolve, invoke, builtin, Sem.run_bind, Sem.run_pure, Result.andThen_ok, List.map_toArray, List.map_cons, List.map_nil, hs, hx]
  rw [hrun]
  exact hK _ _ (h _ _ _ _ h2 h3 h4 h5 h6)

/-- 'append(s, v)' of one number; a block that is not the own row's stays. -/
theorem app1IO (W : World) (hgd : o.guard = none) (s x : Operand) (t : TypeId) (ho : o.op = .call { callee := .builtin .append, args := #[s, x], argTypes := #[t, t] })
    {e : TypeId} {k : IntKind} {bytes : Nat} (E : Elem P t e k bytes) {base n c : Nat} {A : Option Addr} {l : List Int} (own : Own W base e k A n c l) (hs : a.eval s = .slice A n c) (b2 : Nat) (hb2 : b2 < W.heap.size) (hne : (Value.slice A n c).ownBlock ≠ some b2)
    {v : Int} (hv : k.min ≤ v ∧ v ≤ k.max) {z : Nat} (hx : a.eval x = .slice (some ⟨z, 0, none⟩) 1 1) (hz : W.heap.size = z) (h63 : n + 1 ≤ maxLen) (hb : (n + 1) * bytes ≤ 140737488355328)
    (h : ∀ A' n' c' W1, Own W1 base e k A' n' c' (l ++ [v]) → Below base W W1 → W1.heap[b2]? = W.heap[b2]? → W.heap.size ≤ W1.heap.size → (Value.slice A' n' c').ownBlock ≠ some b2 → wpList P ops Q rest (a.put o.dst (.slice A' n' c')) W1) : wpList P ops Q (o :: rest) a (W.alloc (.cells #[.int k v] e)) := by
  subst hz
  have BW : Below W.heap.size W (W.alloc (.cells #[.int k v] e)) := (Below.refl _ _).alloc (Nat.le_refl _) _
  have hlt : b2 < (W.alloc (.cells #[.int k v] e)).heap.size := Nat.lt_of_lt_of_le hb2 BW.size
  refine appIO (W.alloc (.cells #[.int k v] e)) hgd s x t ho E (own.on BW) hs b2 hlt hne (B := W.heap.size + 1) (l2 := [v]) ⟨rfl, by simpa using hv, fun _ => ⟨W.heap.size, 0, rfl, by omega, fun j y hy => ?_⟩⟩ hx h63 hb fun A' n' c' W1 h2 h3 h4 h5 h6 => h A' n' c' W1 h2 ((BW.mono own.2.2).trans h3) (h4.trans (BW.block b2 hb2)) (Nat.le_trans BW.size h5) h6
  match j, hy with
  | 0, hy => simp at hy; subst hy; simp

end

theorem Own.apart {W : World} {base n c b : Nat} {A : Option Addr} {e : TypeId} {k : IntKind} {l : List Int} (h : Own W base e k A n c l) (hb : W.heap.size ≤ b) : (Value.slice A n c).ownBlock ≠ some b := fun q => h.off hb q.symm

theorem rngI_stay {W V : World} {b : Nat} {x : In} (h : W.rangeAt b 0 (inC x)) (q : V.heap[b]? = W.heap[b]?) : V.rangeAt b 0 (inC x) := fun j v hv => by
  rw [World.cell?_of_block (a := ⟨b, 0 + j, none⟩) q]; exact h j v hv

end Go.Proofs.YtnhnbblplnhmlaaGreatDoor
