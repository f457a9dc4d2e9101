/- Slices of strings that a call itself made and may grow. No function of a program is named here. -/
import Derived.Test.YtnhnbblplnhmlaaGreatDoorStrs
import Derived.Test.YtnhnbblplnhmlaaGreatDoorBytes
namespace Go.Proofs.YtnhnbblplnhmlaaGreatDoor
set_option linter.unusedSimpArgs false
open Go.ChangeShapes Go.WideShapes Go.RowKit

/-- The slice 'A n c' lies at the head of a row among the blocks from 'base' on (or is nil), and holds the strings of l. -/
def OwnS (w : World) (base : Nat) (e : TypeId) (A : Option Addr) (n c : Nat) (l : List ByteArray) : Prop :=
  w.ownsRow base e 1 (.slice A n c) n (l.map Value.string) ∧ base ≤ w.heap.size

/-- t is the type of slices of strings, of type e. -/
def ElemS (P : Program) (t e : TypeId) : Prop :=
  P.underlying t = some (.slice e) ∧ ∃ i, P.info? e = some i ∧ i.zero = some (.string ⟨#[]⟩) ∧ i.size = 1 ∧ i.bytes = 16

theorem elemS_of {P : Program} {t e : TypeId} (ht : P.underlying t = some (.slice e)) (h : (P.info? e).map (fun i => (i.zero, i.size, i.bytes)) = some (some (.string ⟨#[]⟩), 1, 16)) : ElemS P t e := by
  refine ⟨ht, ?_⟩
  cases hi : P.info? e with
  | none => rw [hi] at h; cases h
  | some i =>
    rw [hi] at h
    simp only [Option.map_some, Option.some.injEq, Prod.mk.injEq] at h
    exact ⟨i, rfl, h.1, h.2.1, h.2.2⟩

section
variable {w w' : World} {n c m base : Nat} {A : Option Addr} {l f : List ByteArray} {e : TypeId} {x : ByteArray}

theorem OwnS.len (h : OwnS w base e A n c l) : l.length = n := by have := h.1.1; simpa using this

theorem OwnS.base_le (h : OwnS w base e A n c l) : base ≤ w.heap.size := h.2

theorem OwnS.rd (h : OwnS w base e A n c l) : RdS w w.heap.size A n l := by
  refine ⟨h.len, fun hn => ?_⟩
  have hlt := h.1.lt
  have hcell := fun g => h.1.cells (g := g)
  rcases h.1.2 with ⟨_, h0⟩ | ⟨g, cap, cur, hv, hb, hh, hnc, hcm, hcs, htake⟩
  · omega
  · simp only [Value.slice.injEq] at hv
    obtain ⟨rfl, _, rfl⟩ := hv
    refine ⟨g, 0, rfl, (hlt g rfl).2, fun j x hx => ?_⟩
    rw [← add_plain']
    exact hcell g rfl j _ (by simp [hx])

theorem OwnS.room (h : OwnS w base e A n c l) : n ≤ c := by
  rcases h.1.2 with ⟨_, h0⟩ | ⟨g, cap, cur, hv, hb, hh, hnc, hcm, hcs, htake⟩
  · omega
  · simp only [Value.slice.injEq] at hv
    omega

theorem OwnS.on (h : OwnS w base e A n c l) (hb : Below w.heap.size w w') : OwnS w' base e A n c l :=
  ⟨h.1.kept (grown_of_below hb) (by cases hv : Value.ownBlock (.slice A n c) <;> simp), Nat.le_trans h.2 hb.size⟩

/-- A slice of one string, just built. -/
theorem OwnS.made1 (w : World) (e : TypeId) (x : ByteArray) : OwnS (w.alloc (.cells #[.string x] e)) w.heap.size e (some ⟨w.heap.size, 0, none⟩) 1 1 [x] :=
  ⟨⟨by simp, .inr ⟨w.heap.size, 1, #[.string x], rfl, Nat.le_refl _, heap_alloc_new w _, Nat.le_refl _, by decide, rfl, by simp⟩⟩, by simp⟩

/-- The last string is written. -/
theorem OwnS.stored (h : OwnS w base e A (m + 1) c (f ++ [x])) (hm : f.length = m) :
    ∃ b, A = some ⟨b, 0, none⟩ ∧ base ≤ b ∧ b < w.heap.size ∧ w.cell? ⟨b, m, none⟩ = some (.string x) ∧ w.frozen? ⟨b, m, none⟩ = false ∧
      (∀ W y, Below w.heap.size w W → OwnS (W.setCell ⟨b, m, none⟩ (.string y)) base e A (m + 1) c (f ++ [y]) ∧ Below base W (W.setCell ⟨b, m, none⟩ (.string y))) := by
  have hlt := h.1.lt
  have hcell := fun g => h.1.cells (g := g)
  rcases h.1.2 with ⟨_, h0⟩ | ⟨g, cap, cur, hv', hb, hh, hnc, hcm, hcs, htake⟩
  · omega
  · simp only [Value.slice.injEq] at hv'
    obtain ⟨rfl, _, rfl⟩ := hv'
    refine ⟨g, rfl, hb, (hlt g rfl).2, ?_, h.1.frozenAt m, fun W y B => ?_⟩
    · have := hcell g rfl m (.string x) (by simp [hm])
      rw [add_plain', Nat.zero_add] at this
      exact this
    · have hW := h.on B
      have hs := hW.1.stored m (.string y)
      refine ⟨⟨?_, by simpa using hW.2⟩, (Below.refl _ _).setCell hb _⟩
      have e1 : ((f ++ [x]).map Value.string).set m (.string y) = (f ++ [y]).map Value.string := by
        subst hm
        rw [← List.map_set, List.set_append_right _ _ (Nat.le_refl _)]
        simp
      rw [← e1]
      exact hs.1
end

section
variable {P : Program} {ops : Array Oper} {rest : List Oper} {o : Oper} {a : Act} {Q : Exit → Act → World → Prop}

/-- The run of 'append(s, x)' onto an owned slice of strings. -/
theorem run_appS (W : World) {t ty e : TypeId} (E : ElemS P t e) {base n c : Nat} {A : Option Addr} {l : List ByteArray} (own : OwnS W base e A n c l)
    {b off d : Nat} {x : ByteArray} (R : W.cell? ⟨b, off, none⟩ = some (.string x)) (h63 : n + 1 ≤ maxLen) (hb : (n + 1) * 16 ≤ 140737488355328) :
    ∃ A' c' W1, (Builtin.append_ #[t, t] ty #[.slice A n c, .slice (some ⟨b, off, none⟩) 1 d]).run P W = .ok (.slice A' (n + 1) c') W1 ∧ OwnS W1 base e A' (n + 1) c' (l ++ [x]) ∧ Below base W W1 := by
  obtain ⟨ht, i, hi, hz, hsize, hby⟩ := E
  obtain ⟨v', w', hrun, h2, h3, _, _⟩ := run_append_own_at (P := P) W base t ty e i (.string ⟨#[]⟩) 1 16 ht hi hz hsize hby rfl (by decide) _ n _ own.1 ⟨b, off, none⟩ 1 d [.string x] rfl
    (fun j u hu => by
      match j, hu with
      | 0, hu => simp only [List.getElem?_cons_zero, Option.some.injEq] at hu; subst hu; rw [add_plain']; exact R) (fun u hu => by simp at hu; subst hu; rfl) h63 hb own.2
  obtain ⟨A', c', rfl⟩ := form_of_own h2
  exact ⟨A', c', w', hrun, ⟨by simpa using h2, Nat.le_trans own.2 h3.size⟩, (Below.refl _ _).grown h3 own.2 fun g hg => (own.1.lt g hg).1⟩

/-- 'append(s, x)' of one string: its cell has just been laid. -/
theorem wpList_app1S (W : World) (hgd : o.guard = none) (s x : Operand) (t : TypeId) (ho : o.op = .call { callee := .builtin .append, args := #[s, x], argTypes := #[t, t] })
    {e : TypeId} (E : ElemS P t e) {base n c : Nat} {A : Option Addr} {l : List ByteArray} (own : OwnS W base e A n c l) (hs : a.eval s = .slice A n c)
    {v : ByteArray} (hx : a.eval x = .slice (some ⟨W.heap.size, 0, none⟩) 1 1) (h63 : n + 1 ≤ maxLen) (hb : (n + 1) * 16 ≤ 140737488355328)
    (h : ∀ A' c' W1, OwnS W1 base e A' (n + 1) c' (l ++ [v]) → Below base W W1 → wpList P ops Q rest (a.put o.dst (.slice A' (n + 1) c')) W1) : wpList P ops Q (o :: rest) a (W.alloc (.cells #[.string v] e)) := by
  have BW : Below W.heap.size W (W.alloc (.cells #[.string v] e)) := (Below.refl _ _).alloc (Nat.le_refl _) _
  refine wpList_plain hgd fun K hK => ?_
  obtain ⟨A', c', W1, hrun, h2, h3⟩ := run_appS (P := P) (ty := o.type) (W.alloc (.cells #[.string v] e)) E (own.on BW) (b := W.heap.size) (off := 0) (d := 1) (x := v) (by simp) h63 hb
  unfold Oper.wp execOp
  simp only [ho, resolve, invoke, builtin, Sem.run_bind, Sem.run_pure, Result.andThen_ok, List.map_toArray, List.map_cons, List.map_nil, hs, hx]
  rw [hrun]
  exact hK _ _ (h _ _ _ h2 ((BW.mono own.2).trans h3))
end

end Go.Proofs.YtnhnbblplnhmlaaGreatDoor
