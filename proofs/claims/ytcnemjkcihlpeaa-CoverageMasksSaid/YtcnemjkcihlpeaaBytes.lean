/- Slices that read as lists of integers; slices that a call itself made and may grow. No function of a program is named here. -/
import Derived.WalkKit
import Derived.Below
import Derived.Laws.OwnMore
import Derived.Maps.AppendAt
import Derived.Lib.AppendStr
import Derived.Lib.Hide
import Derived.OpenShut
import Derived.ChangeSlices
namespace Go.Proofs.Ytcnemjkcihlpeaa
set_option linter.unusedSimpArgs false
open Go.ChangeShapes Go.WideShapes Go.RowKit

/-- n cells of kind k from address A on, in a block below B, hold the numbers of l. -/
def Rd (w : World) (B : Nat) (k : IntKind) (A : Option Addr) (n : Nat) (l : List Int) : Prop :=
  l.length = n ∧ (∀ x ∈ l, k.min ≤ x ∧ x ≤ k.max) ∧
  (0 < n → ∃ b off, A = some ⟨b, off, none⟩ ∧ b < B ∧ ∀ j x, l[j]? = some x → w.cell? ⟨b, off + j, none⟩ = some (.int k x))

/-- The slice 'A n c' lies at the head of a row among the blocks from 'base' on (or is nil), and holds the numbers of l. -/
def Own (w : World) (base : Nat) (e : TypeId) (k : IntKind) (A : Option Addr) (n c : Nat) (l : List Int) : Prop :=
  w.ownsRow base e 1 (.slice A n c) n (l.map (Value.int k)) ∧ (∀ x ∈ l, k.min ≤ x ∧ x ≤ k.max) ∧ base ≤ w.heap.size

/-- t is the type of slices of integers of kind k, of type e and so many bytes. -/
def Elem (P : Program) (t e : TypeId) (k : IntKind) (bytes : Nat) : Prop :=
  P.underlying t = some (.slice e) ∧ ∃ i, P.info? e = some i ∧ i.zero = some (.int k 0) ∧ i.size = 1 ∧ i.bytes = bytes

theorem elem_of {P : Program} {t e : TypeId} {k : IntKind} {bytes : Nat} (ht : P.underlying t = some (.slice e)) (h : (P.info? e).map (fun i => (i.zero, i.size, i.bytes)) = some (some (.int k 0), 1, bytes)) : Elem P t e k bytes :=
  ⟨ht, info_parts h⟩

theorem u8_min : IntKind.u8.min = 0 := rfl
theorem u8_max : IntKind.u8.max = 255 := rfl
theorem i64_min : IntKind.i64.min = -9223372036854775808 := rfl
theorem i64_max : IntKind.i64.max = 9223372036854775807 := rfl

theorem grown_of_below {w w' : World} (h : Below w.heap.size w w') : w.grownBy w' none := ⟨h.os, h.tape, h.output, h.size, fun k hk _ => h.block k hk⟩

section
variable {w w' : World} {B B' n c base : Nat} {k : IntKind} {A : Option Addr} {l : List Int} {e : TypeId}

theorem Rd.len (h : Rd w B k A n l) : l.length = n := h.1

theorem Rd.rng (h : Rd w B k A n l) : ∀ x ∈ l, k.min ≤ x ∧ x ≤ k.max := h.2.1

theorem Rd.below (h : Rd w B k A n l) (hb : Below B w w') : Rd w' B k A n l :=
  ⟨h.1, h.2.1, fun hn => by
    obtain ⟨b, off, e, hlt, hc⟩ := h.2.2 hn
    exact ⟨b, off, e, hlt, fun j x hx => (hb.cell (p := ⟨b, off + j, none⟩) hlt).trans (hc j x hx)⟩⟩

theorem Rd.more (h : Rd w B k A n l) (hB : B ≤ B') : Rd w B' k A n l :=
  ⟨h.1, h.2.1, fun hn => by
    obtain ⟨b, off, e, hlt, hc⟩ := h.2.2 hn
    exact ⟨b, off, e, by omega, hc⟩⟩

theorem Rd.on (h : Rd w w.heap.size k A n l) (hb : Below w.heap.size w w') : Rd w' w'.heap.size k A n l := (h.below hb).more hb.size

theorem Rd.nil (w : World) (B : Nat) (k : IntKind) (A : Option Addr) : Rd w B k A 0 [] := ⟨rfl, by simp, fun h => absurd h (by omega)⟩

theorem Rd.at_ {j : Nat} (h : Rd w B k A n l) (hj : j < n) : ∃ b off x, A = some ⟨b, off, none⟩ ∧ b < B ∧ w.cell? ⟨b, off + j, none⟩ = some (.int k x) ∧ k.min ≤ x ∧ x ≤ k.max ∧ Hid (l[j]? = some x) := by
  obtain ⟨b, off, e, hlt, hc⟩ := h.2.2 (by omega)
  have hl : j < l.length := by rw [h.1]; exact hj
  have hx := List.getElem?_eq_getElem hl
  exact ⟨b, off, l[j], e, hlt, hc j _ hx, (h.2.1 _ (List.getElem_mem hl)).1, (h.2.1 _ (List.getElem_mem hl)).2, Lib.hid hx⟩

theorem Rd.byte {j : Nat} (h : Rd w B .u8 A n l) (hj : j < n) : ∃ b off x, A = some ⟨b, off, none⟩ ∧ w.cell? ⟨b, off + j, none⟩ = some (.int .u8 x) ∧ 0 ≤ x ∧ x < 256 ∧ Hid (l[j]? = some x) := by
  obtain ⟨b, off, x, e, _, hc, h0, h1, hx⟩ := h.at_ hj
  rw [u8_min] at h0
  rw [u8_max] at h1
  exact ⟨b, off, x, e, hc, h0, by omega, hx⟩

theorem Rd.int {j : Nat} (h : Rd w B .i64 A n l) (hj : j < n) : ∃ b off x, A = some ⟨b, off, none⟩ ∧ w.cell? ⟨b, off + j, none⟩ = some (.int .i64 x) ∧ -9223372036854775808 ≤ x ∧ x ≤ 9223372036854775807 ∧ Hid (l[j]? = some x) := by
  obtain ⟨b, off, x, e, _, hc, h0, h1, hx⟩ := h.at_ hj
  rw [i64_min] at h0
  rw [i64_max] at h1
  exact ⟨b, off, x, e, hc, h0, h1, hx⟩

theorem add_plain' (b off j : Nat) : (⟨b, off, none⟩ : Addr).add j = ⟨b, off + j, none⟩ := by unfold Addr.add; split <;> simp_all

/-- A part of a slice: the model keeps the address where the capacity ends. -/
theorem Rd.cut {i j cap : Nat} (h : Rd w B k A n l) (hi : i ≤ j) (hj : j ≤ n) (hc : n ≤ cap) : Rd w B k (if cap = i then A else A.map (·.add i)) (j - i) ((l.drop i).take (j - i)) := by
  refine ⟨by rw [List.length_take, List.length_drop, h.1]; omega, fun x hx => h.2.1 x (List.mem_of_mem_drop (List.mem_of_mem_take hx)), fun hn => ?_⟩
  obtain ⟨b, off, rfl, hlt, hcell⟩ := h.2.2 (by omega)
  rw [if_neg (by omega)]
  refine ⟨b, off + i, by simp [add_plain'], hlt, fun q x hx => ?_⟩
  rw [List.getElem?_take] at hx
  split at hx
  · rw [List.getElem?_drop] at hx
    rw [Nat.add_assoc]
    exact hcell _ _ hx
  · cases hx

theorem Own.len (h : Own w base e k A n c l) : l.length = n := by have := h.1.1; simpa using this

theorem Own.rng (h : Own w base e k A n c l) : ∀ x ∈ l, k.min ≤ x ∧ x ≤ k.max := h.2.1

theorem Own.base_le (h : Own w base e k A n c l) : base ≤ w.heap.size := h.2.2

theorem Own.rd (h : Own w base e k A n c l) : Rd w w.heap.size k A n l := by
  refine ⟨h.len, h.2.1, fun hn => ?_⟩
  have hlt := h.1.lt
  have hcell := fun g => h.1.cells (g := g)
  rcases h.1.2 with ⟨_, h0⟩ | ⟨g, cap, cur, hv, hb, hh, hnc, hcm, hcs, htake⟩
  · omega
  · simp only [Value.slice.injEq] at hv
    obtain ⟨rfl, _, rfl⟩ := hv
    refine ⟨g, 0, rfl, (hlt g rfl).2, fun j x hx => ?_⟩
    rw [← add_plain']
    exact hcell g rfl j _ (by simp [hx])

theorem Own.room (h : Own w base e k A n c l) : n ≤ c := by
  rcases h.1.2 with ⟨_, h0⟩ | ⟨g, cap, cur, hv, hb, hh, hnc, hcm, hcs, htake⟩
  · omega
  · simp only [Value.slice.injEq] at hv
    omega

theorem Own.on (h : Own w base e k A n c l) (hb : Below w.heap.size w w') : Own w' base e k A n c l :=
  ⟨h.1.kept (grown_of_below hb) (by cases hv : Value.ownBlock (.slice A n c) <;> simp), h.2.1, Nat.le_trans h.2.2 hb.size⟩

theorem Own.alloc (h : Own w base e k A n c l) (o : Obj) : Own (w.alloc o) base e k A n c l :=
  h.on ((Below.refl _ _).alloc (Nat.le_refl _) _)

theorem Own.nil (w : World) (e : TypeId) (k : IntKind) : Own w w.heap.size e k none 0 0 [] := ⟨World.ownsRow_nil _ _ _ _, by simp, Nat.le_refl _⟩

theorem Own.made (w : World) (e : TypeId) (k : IntKind) : Own (w.alloc (.cells #[] e)) w.heap.size e k (some ⟨w.heap.size, 0, none⟩) 0 0 [] :=
  ⟨World.ownsRow_made w #[] 0 (Nat.le_refl _) (by decide) (by simp), by simp, by simp⟩

/-- A cell is written. -/
theorem Own.stored (h : Own w base e k A n c l) {j : Nat} {v : Int} (hj : j < n) (hv : k.min ≤ v ∧ v ≤ k.max) :
    ∃ b, A = some ⟨b, 0, none⟩ ∧ base ≤ b ∧ (∃ u, w.cell? ⟨b, j, none⟩ = some u) ∧ w.frozen? ⟨b, j, none⟩ = false ∧
      Own (w.setCell ⟨b, j, none⟩ (.int k v)) base e k A n c (l.set j v) ∧ Below base w (w.setCell ⟨b, j, none⟩ (.int k v)) := by
  have hlen := h.len
  obtain ⟨h1, h2, h3⟩ := h
  have hlt := h1.lt
  rcases h1.2 with ⟨_, h0⟩ | ⟨g, cap, cur, hv', hb, hh, hnc, hcm, hcs, htake⟩
  · omega
  · simp only [Value.slice.injEq] at hv'
    obtain ⟨rfl, _, rfl⟩ := hv'
    have hs := h1.stored j (.int k v)
    refine ⟨g, rfl, hb, ⟨_, (h1.cellAt j (by omega)).trans (List.getElem?_eq_getElem (by simp; omega))⟩, h1.frozenAt j, ⟨by rw [List.map_set]; exact hs.1, fun x hx => ?_, by simpa using h3⟩, (Below.refl _ _).setCell hb _⟩
    rcases List.mem_or_eq_of_mem_set hx with hx | rfl
    · exact h2 x hx
    · exact hv

/-- An owned slice is nil, or begins at a block of its own. -/
theorem form_of_own {size m : Nat} {xs : List Value} {v : Value} (h : w.ownsRow base e size v m xs) : ∃ A c, v = .slice A m c := by
  rcases h.2 with ⟨rfl, rfl⟩ | ⟨g, cap, cur, rfl, _⟩
  · exact ⟨none, 0, rfl⟩
  · exact ⟨_, cap, rfl⟩
end

section
variable {P : Program} {ops : Array Oper} {rest : List Oper} {o : Oper} {a : Act} {Q : Exit → Act → World → Prop}

theorem run_append_of_nil' (w : World) (base : Nat) (t ty e : TypeId) (i : TypeInfo) (size : Nat) (ht : P.underlying t = some (.slice e)) (hi : P.info? e = some i)
    (v : Value) (n : Nat) (xs : List Value) (hown : w.ownsRow base e size v n xs) (c : Nat) : (Builtin.append_ #[t, t] ty #[v, .slice none 0 c]).run P w = .ok v w := by
  rcases hown.2 with ⟨rfl, rfl⟩ | ⟨g, cap, cur, rfl, _, _, hnc, _⟩
  · simp [Builtin.append_, run_underlying ht, sizeOf, typeInfo, hi, Builtin.lenOf, Builtin.firstCells]
  · simp [Builtin.append_, run_underlying ht, sizeOf, typeInfo, hi, Builtin.lenOf, Builtin.firstCells, hnc, storeCells]

theorem oneCell_ints (k : IntKind) (l : List Int) : ∀ u ∈ l.map (Value.int k), u.oneCell' = true := by
  intro u hu
  obtain ⟨x, _, rfl⟩ := List.mem_map.1 hu
  rfl

/-- The run of 'append(s, xs...)' onto an owned slice. -/
theorem run_app (W : World) {t ty e : TypeId} {k : IntKind} {bytes : Nat} (E : Elem P t e k bytes) {base n c : Nat} {A : Option Addr} {l : List Int} (own : Own W base e k A n c l)
    {B m d : Nat} {A2 : Option Addr} {l2 : List Int} (R : Rd W B k A2 m l2) (h63 : n + m ≤ maxLen) (hb : (n + m) * bytes ≤ 140737488355328) :
    ∃ A' c' W1, (Builtin.append_ #[t, t] ty #[.slice A n c, .slice A2 m d]).run P W = .ok (.slice A' (n + m) c') W1 ∧ Own W1 base e k A' (n + m) c' (l ++ l2) ∧ Below base W W1 := by
  obtain ⟨ht, i, hi, hz, hsize, hby⟩ := E
  have hrng : ∀ x ∈ l ++ l2, k.min ≤ x ∧ x ≤ k.max := by
    intro x hx
    rcases List.mem_append.1 hx with hx | hx
    · exact own.2.1 x hx
    · exact R.2.1 x hx
  by_cases hm : m = 0
  · subst hm
    have hl2 : l2 = [] := List.eq_nil_of_length_eq_zero R.1
    subst hl2
    rcases A2 with _ | ad
    · exact ⟨A, c, W, run_append_of_nil' W base t ty e i 1 ht hi _ n _ own.1 d, by simpa using own, Below.refl _ _⟩
    · obtain ⟨v', w', hrun, h2, h3, _, _⟩ := run_append_own_at (P := P) W base t ty e i (.int k 0) 1 bytes ht hi hz hsize hby rfl (by decide) _ n _ own.1 ad 0 d [] rfl (by simp) (by simp) h63 hb own.2.2
      obtain ⟨A', c', rfl⟩ := form_of_own h2
      exact ⟨A', c', w', hrun, ⟨by simpa using h2, hrng, Nat.le_trans own.2.2 h3.size⟩, (Below.refl _ _).grown h3 own.2.2 fun g hg => (own.1.lt g hg).1⟩
  · obtain ⟨b, off, rfl, _, hc⟩ := R.2.2 (by omega)
    obtain ⟨v', w', hrun, h2, h3, _, _⟩ := run_append_own_at (P := P) W base t ty e i (.int k 0) 1 bytes ht hi hz hsize hby rfl (by decide) _ n _ own.1 ⟨b, off, none⟩ m d (l2.map (Value.int k)) (by simp [R.1])
      (fun j u hu => by
        rw [List.getElem?_map, Option.map_eq_some_iff] at hu
        obtain ⟨x, hx, rfl⟩ := hu
        rw [add_plain']
        exact hc j x hx) (oneCell_ints k l2) h63 hb own.2.2
    obtain ⟨A', c', rfl⟩ := form_of_own h2
    exact ⟨A', c', w', hrun, ⟨by simpa using h2, hrng, Nat.le_trans own.2.2 h3.size⟩, (Below.refl _ _).grown h3 own.2.2 fun g hg => (own.1.lt g hg).1⟩

/-- 'append(s, xs...)' onto an owned slice, at the operation. -/
theorem wpList_app (W : World) (hgd : o.guard = none) (s x : Operand) (t : TypeId) (ho : o.op = .call { callee := .builtin .append, args := #[s, x], argTypes := #[t, t] })
    {e : TypeId} {k : IntKind} {bytes : Nat} (E : Elem P t e k bytes) {base n c : Nat} {A : Option Addr} {l : List Int} (own : Own W base e k A n c l) (hs : a.eval s = .slice A n c)
    {B m d : Nat} {A2 : Option Addr} {l2 : List Int} (R : Rd W B k A2 m l2) (hx : a.eval x = .slice A2 m d) (h63 : n + m ≤ maxLen) (hb : (n + m) * bytes ≤ 140737488355328)
    (h : ∀ A' n' c' W1, Own W1 base e k A' n' c' (l ++ l2) → Below base W W1 → wpList P ops Q rest (a.put o.dst (.slice A' n' c')) W1) : wpList P ops Q (o :: rest) a W := by
  refine wpList_plain hgd fun K hK => ?_
  obtain ⟨A', c', W1, hrun, h2, h3⟩ := run_app (P := P) (ty := o.type) W E own R h63 hb
  unfold Oper.wp execOp
  simp only [ho, resolve, invoke, builtin, Sem.run_bind, Sem.run_pure, Result.andThen_ok, List.map_toArray, List.map_cons, List.map_nil, hs, hx]
  rw [hrun]
  exact hK _ _ (h _ _ _ _ h2 h3)

/-- 'append(s, v)' of one number: its cell has just been laid. -/
theorem wpList_app1 (W : World) (hgd : o.guard = none) (s x : Operand) (t : TypeId) (ho : o.op = .call { callee := .builtin .append, args := #[s, x], argTypes := #[t, t] })
    {e : TypeId} {k : IntKind} {bytes : Nat} (E : Elem P t e k bytes) {base n c : Nat} {A : Option Addr} {l : List Int} (own : Own W base e k A n c l) (hs : a.eval s = .slice A n c)
    {v : Int} (hv : k.min ≤ v ∧ v ≤ k.max) (hx : a.eval x = .slice (some ⟨W.heap.size, 0, none⟩) 1 1) (h63 : n + 1 ≤ maxLen) (hb : (n + 1) * bytes ≤ 140737488355328)
    (h : ∀ A' n' c' W1, Own W1 base e k A' n' c' (l ++ [v]) → Below base W W1 → wpList P ops Q rest (a.put o.dst (.slice A' n' c')) W1) : wpList P ops Q (o :: rest) a (W.alloc (.cells #[.int k v] e)) := by
  have BW : Below W.heap.size W (W.alloc (.cells #[.int k v] e)) := (Below.refl _ _).alloc (Nat.le_refl _) _
  refine wpList_app (W.alloc (.cells #[.int k v] e)) hgd s x t ho E (own.on BW) hs (B := W.heap.size + 1) (l2 := [v]) ⟨rfl, by simpa using hv, fun _ => ⟨W.heap.size, 0, rfl, by omega, fun j y hy => ?_⟩⟩ hx h63 hb fun A' n' c' W1 h2 h3 => h A' n' c' W1 h2 ((BW.mono own.2.2).trans h3)
  match j, hy with
  | 0, hy => simp at hy; subst hy; simp

/-- 'append(s, t...)' of a string's bytes. -/
theorem wpList_apps (W : World) (hgd : o.guard = none) (s x : Operand) (t u : TypeId) (ho : o.op = .call { callee := .builtin .append, args := #[s, x], argTypes := #[t, u] })
    {e : TypeId} (E : Elem P t e .u8 1) (hu : P.underlying u = some .string) {base n c : Nat} {A : Option Addr} {l : List Int} (own : Own W base e .u8 A n c l) (hs : a.eval s = .slice A n c)
    (str : ByteArray) (hx : a.eval x = .string str) (h63 : n + str.size ≤ maxLen) (hb : n + str.size ≤ 140737488355328)
    (h : ∀ A' n' c' W1, Own W1 base e .u8 A' n' c' (l ++ str.data.toList.map (fun b => (b.toNat : Int))) → Below base W W1 → wpList P ops Q rest (a.put o.dst (.slice A' n' c')) W1) : wpList P ops Q (o :: rest) a W := by
  obtain ⟨ht, i, hi, hz, hsize, hby⟩ := E
  refine Lib.wpList_append_own_string W hgd s x t u ho base e i ht hu hi hz hsize hby _ n _ hs own.1 str hx h63 hb own.2.2 fun v' w' h2 h3 _ => ?_
  obtain ⟨A', c', rfl⟩ := form_of_own h2
  refine h A' _ c' w' ⟨by simpa [Lib.strCells, Function.comp_def] using h2, fun y hy => ?_, Nat.le_trans own.2.2 h3.size⟩ ((Below.refl _ _).grown h3 own.2.2 fun g hg => (own.1.lt g hg).1)
  rcases List.mem_append.1 hy with hy | hy
  · exact own.2.1 y hy
  · obtain ⟨b, _, rfl⟩ := List.mem_map.1 hy
    have := b.toNat_lt
    rw [u8_min, u8_max]
    omega

end

/-- What a frame hands on of a slice of integers that came in. -/
theorem rd_open {H : Type} {enc : TypeId × Value → H} {P : Program} {w : World} {base : Nat} {spare : Nat → Bool} {held : Bool} {t e : TypeId} {k : IntKind} {fuel : Nat} {v : Value} {x : DataW H × List MemPlace}
    (ht : P.underlying t = some (.slice e)) (he : P.underlying e = some (.int k)) (hc : P.cellsOf e = 1) (h : DataW.trod enc P w base spare held fuel t [v] = some x) :
    ∃ A n c l, v = .slice A n c ∧ Rd w w.heap.size k A n l ∧ n ≤ c ∧ c ≤ maxLen ∧ (x.1 = .nil ∧ n = 0 ∨ ∃ elems spare, x.1 = .slice elems spare ∧ elems.length = n) := by
  rcases open_ints ht he hc h with ⟨h1, hx⟩ | ⟨a, len, cap, zs, h1, _, hl, hcap, hz, hx, hcell, hwf⟩
  · simp only [List.cons.injEq, and_true] at h1
    exact ⟨none, 0, 0, [], h1, Rd.nil _ _ _ _, Nat.le_refl _, Nat.zero_le _, .inl ⟨by rw [hx], rfl⟩⟩
  · simp only [List.cons.injEq, and_true] at h1
    subst h1
    have hle : len ≤ zs.length := by rw [hz]; split <;> omega
    refine ⟨some a, len, cap, zs.take len, rfl, ⟨by simp; omega, fun y hy => ?_, fun hn => ?_⟩, hl, hcap, .inr ⟨_, _, by rw [hx], by simp [lits]; omega⟩⟩
    · have := hwf y (List.mem_of_mem_take hy)
      simpa [Lit.wf] using this
    · obtain ⟨b, off, rfl, hat⟩ := ints_at hcell (by omega)
      refine ⟨b, off, rfl, World.block_lt_of_cell? w _ (hat 0 (by omega)), fun j y hy => ?_⟩
      rw [List.getElem?_take] at hy
      split at hy
      · rw [hat j (by omega), List.getD, hy]
        rfl
      · cases hy

/-- The same of a slice whose header is known. -/
theorem rd_slice {H : Type} {enc : TypeId × Value → H} {P : Program} {w : World} {base : Nat} {spare : Nat → Bool} {held : Bool} {t e : TypeId} {k : IntKind} {fuel : Nat} {A : Option Addr} {n c : Nat} {d : DataW H} {ps : List MemPlace}
    (ht : P.underlying t = some (.slice e)) (he : P.underlying e = some (.int k)) (hc : P.cellsOf e = 1) (h : DataW.trod enc P w base spare held fuel t [.slice A n c] = some (d, ps)) :
    ∃ l, Rd w w.heap.size k A n l ∧ n ≤ c ∧ c ≤ maxLen ∧ (d = .nil ∧ n = 0 ∨ ∃ elems spare, d = .slice elems spare ∧ elems.length = n) := by
  obtain ⟨A', n', c', l, hv, R, h1, h2, h3⟩ := rd_open ht he hc h
  simp only [Value.slice.injEq] at hv
  obtain ⟨rfl, rfl, rfl⟩ := hv
  exact ⟨l, R, h1, h2, h3⟩

end Go.Proofs.Ytcnemjkcihlpeaa
