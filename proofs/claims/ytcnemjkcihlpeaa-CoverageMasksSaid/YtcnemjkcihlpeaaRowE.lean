/- Slices whose elements take several cells each (structs, arrays by value), read and owned. No function of a program is named here. -/
import Derived.Test.YtcnemjkcihlpeaaBytes
import Derived.OwnWalk
import Derived.BigQuiet
import Derived.Deep.QuietTactic
import Derived.Deep.MidRow
import Derived.Maps.AppendAt
namespace Go.Proofs.Ytcnemjkcihlpeaa
set_option linter.unusedSimpArgs false
open Go.ChangeShapes Go.WideShapes Go.RowKit

/-- n elements from address A on, in a block below B; each takes k cells and holds what 'enc' says. -/
def RdE {α : Type} (enc : α → List Value) (k : Nat) (w : World) (B : Nat) (A : Option Addr) (n : Nat) (l : List α) : Prop :=
  l.length = n ∧ (0 < n → ∃ b off, A = some ⟨b, off, none⟩ ∧ b < B ∧ ∀ j x, l[j]? = some x → w.rangeAt b (off + j * k) (enc x))

/-- The slice 'A n c' lies at the head of a row among the blocks from 'base' on (or is nil), and holds the elements of l. -/
def OwnE {α : Type} (enc : α → List Value) (k : Nat) (w : World) (base : Nat) (e : TypeId) (A : Option Addr) (n c : Nat) (l : List α) : Prop :=
  w.ownsRow base e k (.slice A n c) n (l.flatMap enc) ∧ base ≤ w.heap.size ∧ l.length = n

/-- enc is the cells of a type of k cells. -/
structure Enc {α : Type} (enc : α → List Value) (k : Nat) : Prop where
  len : ∀ x, (enc x).length = k
  pos : 0 < k
  one : ∀ x, ∀ v ∈ enc x, v.oneCell' = true

/-- t is the type of slices of e, whose elements take k cells and so many bytes. -/
def ElemE (P : Program) (t e : TypeId) (k bytes : Nat) : Prop :=
  P.underlying t = some (.slice e) ∧ ∃ i z, P.info? e = some i ∧ i.zero = some z ∧ z.cells.size = k ∧ i.size = k ∧ i.bytes = bytes

theorem elemE_of {P : Program} {t e : TypeId} {k bytes : Nat} (ht : P.underlying t = some (.slice e)) (h : (P.info? e).map (fun i => (i.zero.map (·.cells.size), i.size, i.bytes)) = some (some k, k, bytes)) : ElemE P t e k bytes := by
  refine ⟨ht, ?_⟩
  cases hi : P.info? e with
  | none => rw [hi] at h; cases h
  | some i =>
    rw [hi] at h
    simp only [Option.map_some, Option.some.injEq, Prod.mk.injEq] at h
    obtain ⟨h1, h2, h3⟩ := h
    cases hz : i.zero with
    | none => rw [hz] at h1; cases h1
    | some z =>
      rw [hz] at h1
      simp only [Option.map_some, Option.some.injEq] at h1
      exact ⟨i, z, rfl, hz, h1, h2, h3⟩

section
variable {α : Type} {enc : α → List Value} {k : Nat} {w w' : World} {B B' b o n c base : Nat} {A : Option Addr} {l : List α} {e : TypeId} {x : α}

theorem encs_len (E : Enc enc k) (l : List α) : (l.flatMap enc).length = l.length * k := by
  induction l with
  | nil => simp
  | cons t r ih => rw [List.flatMap_cons, List.length_append, ih, E.len, List.length_cons, Nat.add_mul]; omega

theorem encs_get (E : Enc enc k) {l : List α} {j : Nat} (h : l[j]? = some x) {i : Nat} {v : Value} (hv : (enc x)[i]? = some v) : (l.flatMap enc)[j * k + i]? = some v := by
  induction l generalizing j with
  | nil => cases h
  | cons u r ih =>
    have hi : i < k := by rw [← E.len x]; exact (List.getElem?_eq_some_iff.1 hv).1
    rw [List.flatMap_cons]
    cases j with
    | zero =>
      simp only [List.getElem?_cons_zero, Option.some.injEq] at h
      subst h
      rw [List.getElem?_append_left (by rw [E.len]; omega), Nat.zero_mul, Nat.zero_add]
      exact hv
    | succ j =>
      rw [List.getElem?_cons_succ] at h
      have e1 : (j + 1) * k + i = k + (j * k + i) := by rw [Nat.add_mul]; omega
      rw [e1, List.getElem?_append_right (by rw [E.len]; omega), E.len, show k + (j * k + i) - k = j * k + i by omega]
      exact ih h

theorem rangeAt_below {vs : List Value} (h : w.rangeAt b o vs) (hb : b < B) (K : Below B w w') : w'.rangeAt b o vs := fun j v hv => (K.cell hb).trans (h j v hv)

theorem rangeAt_on {vs : List Value} (h : w.rangeAt b o vs) (K : Below w.heap.size w w') : w'.rangeAt b o vs := fun j v hv => cell_below' K (h j v hv)
where cell_below' {w w' : World} {a : Addr} {v : Value} (h : Below w.heap.size w w') (c : w.cell? a = some v) : w'.cell? a = some v := (h.cell (block_lt_of_cell c)).trans c

theorem RdE.len (h : RdE enc k w B A n l) : l.length = n := h.1
theorem RdE.below (h : RdE enc k w B A n l) (K : Below B w w') : RdE enc k w' B A n l :=
  ⟨h.1, fun hn => by
    obtain ⟨b, off, e, hlt, hc⟩ := h.2 hn
    exact ⟨b, off, e, hlt, fun j x hx => rangeAt_below (hc j x hx) hlt K⟩⟩
theorem RdE.more (h : RdE enc k w B A n l) (K : B ≤ B') : RdE enc k w B' A n l :=
  ⟨h.1, fun hn => by
    obtain ⟨b, off, e, hlt, hc⟩ := h.2 hn
    exact ⟨b, off, e, by omega, hc⟩⟩
theorem RdE.on (h : RdE enc k w w.heap.size A n l) (K : Below w.heap.size w w') : RdE enc k w' w'.heap.size A n l := (h.below K).more K.size
theorem RdE.nil (enc : α → List Value) (k : Nat) (w : World) (B : Nat) (A : Option Addr) : RdE enc k w B A 0 [] := ⟨rfl, fun h => absurd h (by omega)⟩
theorem RdE.at_ {j : Nat} (h : RdE enc k w B A n l) (hj : j < n) : ∃ b off x, A = some ⟨b, off, none⟩ ∧ b < B ∧ w.rangeAt b (off + j * k) (enc x) ∧ Hid (l[j]? = some x) := by
  obtain ⟨b, off, e, hlt, hc⟩ := h.2 (by omega)
  have hx := List.getElem?_eq_getElem (show j < l.length by rw [h.1]; exact hj)
  exact ⟨b, off, l[j]'(by rw [h.1]; exact hj), e, hlt, hc j _ hx, Lib.hid hx⟩

theorem OwnE.len (h : OwnE enc k w base e A n c l) : l.length = n := h.2.2
theorem OwnE.base_le (h : OwnE enc k w base e A n c l) : base ≤ w.heap.size := h.2.1
theorem OwnE.rd (E : Enc enc k) (h : OwnE enc k w base e A n c l) : RdE enc k w w.heap.size A n l := by
  refine ⟨h.len, fun hn => ?_⟩
  have hlt := h.1.lt
  have hcell := fun g => h.1.cells (g := g)
  rcases h.1.2 with ⟨_, h0⟩ | ⟨g, cap, cur, hv, hb, hh, hnc, hcm, hcs, htake⟩
  · omega
  · simp only [Value.slice.injEq] at hv
    obtain ⟨rfl, _, rfl⟩ := hv
    refine ⟨g, 0, rfl, (hlt g rfl).2, fun j x hx i v hv => ?_⟩
    have hk := hcell g rfl (j * k + i) v (encs_get E hx hv)
    rw [add_plain'] at hk
    rwa [Nat.add_assoc]
theorem OwnE.room (h : OwnE enc k w base e A n c l) : n ≤ c := by
  rcases h.1.2 with ⟨_, h0⟩ | ⟨g, cap, cur, hv, hb, hh, hnc, hcm, hcs, htake⟩
  · omega
  · simp only [Value.slice.injEq] at hv
    omega
theorem OwnE.on (h : OwnE enc k w base e A n c l) (hb : Below w.heap.size w w') : OwnE enc k w' base e A n c l :=
  ⟨h.1.kept (grown_of_below hb) (by cases hv : Value.ownBlock (.slice A n c) <;> simp), Nat.le_trans h.2.1 hb.size, h.2.2⟩
theorem OwnE.since (h : OwnE enc k w base e A n c l) (hb : b ≤ base) : OwnE enc k w b e A n c l :=
  ⟨⟨h.1.1, h.1.2.imp id fun ⟨g, cap, cur, h1, h2, h3⟩ => ⟨g, cap, cur, h1, Nat.le_trans hb h2, h3⟩⟩, Nat.le_trans hb h.2.1, h.2.2⟩
theorem OwnE.nil (enc : α → List Value) (k : Nat) (w : World) (e : TypeId) : OwnE enc k w w.heap.size e none 0 0 [] := ⟨World.ownsRow_nil _ _ _ _, Nat.le_refl _, rfl⟩
theorem OwnE.nil0 (enc : α → List Value) (k : Nat) (w : World) (e : TypeId) (base : Nat) (h : base ≤ w.heap.size) : OwnE enc k w base e none 0 0 [] := ⟨World.ownsRow_nil _ _ _ _, h, rfl⟩
/-- A slice of one element, just laid. -/
theorem OwnE.made1 (E : Enc enc k) (w : World) (e : TypeId) (x : α) : OwnE enc k (w.alloc (.cells (enc x).toArray e)) w.heap.size e (some ⟨w.heap.size, 0, none⟩) 1 1 [x] :=
  ⟨⟨by simp [E.len], .inr ⟨w.heap.size, 1, _, rfl, Nat.le_refl _, heap_alloc_new w _, Nat.le_refl _, by decide, by simp [E.len], by have := E.len x; rw [List.take_of_length_le (by simpa using Nat.le_of_eq this)]; simp⟩⟩, by simp, rfl⟩
end

section
variable {P : Program} {ops : Array Oper} {rest : List Oper} {o : Oper} {a : Act} {Q : Exit → Act → World → Prop} {α : Type} {enc : α → List Value} {k : Nat}

theorem oneCell_encs (E : Enc enc k) (l : List α) : ∀ u ∈ l.flatMap enc, u.oneCell' = true := by
  intro u hu
  obtain ⟨x, _, hx⟩ := List.mem_flatMap.1 hu
  exact E.one x u hx

/-- The run of 'append(s, xs...)' onto an owned slice. -/
theorem run_appE (W : World) {t ty e : TypeId} {bytes : Nat} (N : Enc enc k) (E : ElemE P t e k bytes) {base n c : Nat} {A : Option Addr} {l : List α} (own : OwnE enc k W base e A n c l)
    {B m d : Nat} {A2 : Option Addr} {l2 : List α} (R : RdE enc k W B A2 m l2) (h63 : n + m ≤ maxLen) (hb : (n + m) * bytes ≤ 140737488355328) :
    ∃ A' c' W1, (Builtin.append_ #[t, t] ty #[.slice A n c, .slice A2 m d]).run P W = .ok (.slice A' (n + m) c') W1 ∧ OwnE enc k W1 base e A' (n + m) c' (l ++ l2) ∧ Below base W W1 := by
  obtain ⟨ht, i, z, hi, hz, hzs, hsize, hby⟩ := E
  by_cases hm : m = 0
  · subst hm
    have hl2 : l2 = [] := List.eq_nil_of_length_eq_zero R.1
    subst hl2
    rcases A2 with _ | ad
    · exact ⟨A, c, W, run_append_of_nil' W base t ty e i k ht hi _ n _ own.1 d, by simpa using own, Below.refl _ _⟩
    · obtain ⟨v', w', hrun, h2, h3, _, _⟩ := run_append_own_at (P := P) W base t ty e i z k bytes ht hi hz hsize hby hzs N.pos _ n _ own.1 ad 0 d [] (by simp) (by simp) (by simp) h63 hb own.2.1
      obtain ⟨A', c', rfl⟩ := form_of_own h2
      exact ⟨A', c', w', hrun, ⟨by simpa using h2, Nat.le_trans own.2.1 h3.size, by simp [own.2.2]⟩, (Below.refl _ _).grown h3 own.2.1 fun g hg => (own.1.lt g hg).1⟩
  · obtain ⟨b, off, rfl, _, hc⟩ := R.2 (by omega)
    obtain ⟨v', w', hrun, h2, h3, _, _⟩ := run_append_own_at (P := P) W base t ty e i z k bytes ht hi hz hsize hby hzs N.pos _ n _ own.1 ⟨b, off, none⟩ m d (l2.flatMap enc) (by rw [encs_len N, R.1])
      (fun j u hu => by
        have hj : j < m * k := by rw [← R.1, ← encs_len N]; exact (List.getElem?_eq_some_iff.1 hu).1
        have hq : j / k < l2.length := by rw [R.1]; exact (Nat.div_lt_iff_lt_mul N.pos).2 hj
        have hx := List.getElem?_eq_getElem hq
        have hr : j % k < (enc l2[j / k]).length := by rw [N.len]; exact Nat.mod_lt _ N.pos
        have hv := List.getElem?_eq_getElem hr
        have e1 : j / k * k + j % k = j := by rw [Nat.mul_comm]; exact Nat.div_add_mod j k
        have g := encs_get N hx hv
        rw [e1, hu] at g
        have c1 := hc _ _ hx _ _ hv
        rw [Nat.add_assoc, e1] at c1
        rw [add_plain', c1, ← g]) (oneCell_encs N l2) h63 hb own.2.1
    obtain ⟨A', c', rfl⟩ := form_of_own h2
    exact ⟨A', c', w', hrun, ⟨by simpa using h2, Nat.le_trans own.2.1 h3.size, by simp [own.2.2, R.1]⟩, (Below.refl _ _).grown h3 own.2.1 fun g hg => (own.1.lt g hg).1⟩

/-- 'append(s, xs...)' onto an owned slice, at the operation. -/
theorem wpList_appE (W : World) (hgd : o.guard = none) (s x : Operand) (t : TypeId) (ho : o.op = .call { callee := .builtin .append, args := #[s, x], argTypes := #[t, t] })
    {e : TypeId} {bytes : Nat} (N : Enc enc k) (E : ElemE P t e k bytes) {base n c : Nat} {A : Option Addr} {l : List α} (own : OwnE enc k W base e A n c l) (hs : a.eval s = .slice A n c)
    {B m d : Nat} {A2 : Option Addr} {l2 : List α} (R : RdE enc k W B A2 m l2) (hx : a.eval x = .slice A2 m d) (h63 : n + m ≤ maxLen) (hb : (n + m) * bytes ≤ 140737488355328)
    (h : ∀ A' n' c' W1, OwnE enc k W1 base e A' n' c' (l ++ l2) → Below base W W1 → wpList P ops Q rest (a.put o.dst (.slice A' n' c')) W1) : wpList P ops Q (o :: rest) a W := by
  refine wpList_plain hgd fun K hK => ?_
  obtain ⟨A', c', W1, hrun, h2, h3⟩ := run_appE (P := P) (ty := o.type) W N E own R h63 hb
  unfold Oper.wp execOp
  simp only [ho, resolve, invoke, builtin, Sem.run_bind, Sem.run_pure, Result.andThen_ok, List.map_toArray, List.map_cons, List.map_nil, hs, hx]
  rw [hrun]
  exact hK _ _ (h _ _ _ _ h2 h3)

/-- 'append(s, v)' of one element: its cells have just been laid. -/
theorem wpList_app1E (W : World) (hgd : o.guard = none) (s x : Operand) (t : TypeId) (ho : o.op = .call { callee := .builtin .append, args := #[s, x], argTypes := #[t, t] })
    {e : TypeId} {bytes : Nat} (N : Enc enc k) (E : ElemE P t e k bytes) {base n c : Nat} {A : Option Addr} {l : List α} (own : OwnE enc k W base e A n c l) (hs : a.eval s = .slice A n c)
    (v : α) {cs : Array Value} (hcs : cs = (enc v).toArray) (hx : a.eval x = .slice (some ⟨W.heap.size, 0, none⟩) 1 1) (h63 : n + 1 ≤ maxLen) (hb : (n + 1) * bytes ≤ 140737488355328)
    (h : ∀ A' n' c' W1, OwnE enc k W1 base e A' n' c' (l ++ [v]) → Below base W W1 → wpList P ops Q rest (a.put o.dst (.slice A' n' c')) W1) : wpList P ops Q (o :: rest) a (W.alloc (.cells cs e)) := by
  subst hcs
  have BW : Below W.heap.size W (W.alloc (.cells (enc v).toArray e)) := (Below.refl _ _).alloc (Nat.le_refl _) _
  exact wpList_appE _ hgd s x t ho N E (own.on BW) hs ((OwnE.made1 N W e v).rd N) hx h63 hb fun A' n' c' W1 h2 h3 => h A' n' c' W1 h2 ((BW.mono own.2.1).trans h3)

end

/-- A type of k cells. -/
structure RowK (P : Program) (t : TypeId) (k : Nat) : Prop where
  row : ∃ d, P.underlying t = some d ∧ d.isRow = true
  size : (P.info? t).map (·.size) = some k

section
variable {P : Program} {ops : Array Oper} {Q : Exit → Act → World → Prop} {rest : List Oper} {a : Act} {W : World}

/-- A whole element loaded, as the operation is written out. -/
theorem eloadL {dst : Option Tmp} {ty t : TypeId} {x : Operand} {pos : String} {after : Array Edge} {b o : Nat} {cs : List Value} (T : RowK P t cs.length) (k : W.rangeAt b o cs) (hx : a.eval x = .pointer (some ⟨b, o, none⟩))
    (H : wpList P ops Q rest (a.put dst (.agg cs.toArray)) W) : wpList P ops Q ({ dst := dst, op := .load t x, type := ty, pos := pos, after := after, guard := none } :: rest) a W := by
  obtain ⟨⟨d, h1, h2⟩, h3⟩ := T
  exact wpList_load_mid rfl t x rfl b o hx cs d k h1 h2 h3 H

/-- .. the value a letter. -/
theorem eloadT {T : Value} {dst : Option Tmp} {ty t : TypeId} {x : Operand} {pos : String} {after : Array Edge} {b o k : Nat} {cs : List Value} (R : RowK P t k) (hl : cs.length = k) (K : W.rangeAt b o cs) (hT : Value.agg cs.toArray = T) (hx : a.eval x = .pointer (some ⟨b, o, none⟩))
    (H : wpList P ops Q rest (a.put dst T) W) : wpList P ops Q ({ dst := dst, op := .load t x, type := ty, pos := pos, after := after, guard := none } :: rest) a W := by
  subst hl hT
  exact eloadL R K hx H

theorem setCells_alloc (W : World) (t : TypeId) : ∀ (vs pre zs : List Value), zs.length = vs.length → (W.alloc (.cells (pre ++ zs).toArray t)).setCells W.heap.size pre.length vs = W.alloc (.cells (pre ++ vs).toArray t)
  | [], pre, zs, h => by
    obtain rfl : zs = [] := List.eq_nil_of_length_eq_zero h
    rfl
  | v :: vs, pre, [], h => by simp at h
  | v :: vs, pre, z :: zs, h => by
    have e1 : (W.alloc (.cells (pre ++ z :: zs).toArray t)).setCell ⟨W.heap.size, pre.length, none⟩ v = W.alloc (.cells ((pre ++ [v]) ++ zs).toArray t) := by
      rw [World.setCell_alloc_at _ _ _ _ _ rfl]
      congr 2
      apply Array.ext'
      simp
    have e2 := setCells_alloc W t vs (pre ++ [v]) zs (by simpa using h)
    rw [show (pre ++ [v]) ++ vs = pre ++ v :: vs by simp, show (pre ++ [v]).length = pre.length + 1 by simp] at e2
    rw [World.setCells, e1]
    exact e2

/-- A whole element stored into a block just laid. -/
theorem estoreL {dst : Option Tmp} {ty t : TypeId} {x y : Operand} {pos : String} {after : Array Edge} {zs cs : Array Value} (T : (P.info? t).map (·.size) = some cs.size) (hz : zs.size = cs.size) (h1 : cs.all (·.oneCell') = true)
    (hx : a.eval x = .pointer (some ⟨W.heap.size, 0, none⟩)) (hy : a.eval y = .agg cs)
    (H : wpList P ops Q rest (a.put dst undef) (W.alloc (.cells cs t))) : wpList P ops Q ({ dst := dst, op := .store t x y, type := ty, pos := pos, after := after, guard := none } :: rest) a (W.alloc (.cells zs t)) := by
  refine wpList_store_mid rfl t x y rfl W.heap.size 0 cs hx hy (fun j hj => ⟨?_, ?_⟩) T h1 ?_
  · have : j < zs.size := by omega
    simp [Array.getElem?_eq_getElem this]
  · simp
  · have e := setCells_alloc W t cs.toList [] zs.toList (by simpa using hz)
    simp only [List.nil_append, List.length_nil] at e
    rw [show (W.alloc (.cells zs t)).setCells W.heap.size 0 cs.toList = W.alloc (.cells cs t) from by simpa using e]
    exact H

theorem eload1L {dst : Option Tmp} {ty t : TypeId} {x : Operand} {pos : String} {after : Array Edge} {b o : Nat} {v0 : Value} (T : RowK P t 1) (k : W.rangeAt b o [v0]) (hx : a.eval x = .pointer (some ⟨b, o, none⟩))
    (H : wpList P ops Q rest (a.put dst (.agg #[v0])) W) : wpList P ops Q ({ dst := dst, op := .load t x, type := ty, pos := pos, after := after, guard := none } :: rest) a W :=
  eloadL (cs := [v0]) T k hx H

theorem estore1L {dst : Option Tmp} {ty t : TypeId} {x y : Operand} {pos : String} {after : Array Edge} {z0 v0 : Value} (T : RowK P t 1) (hx : a.eval x = .pointer (some ⟨W.heap.size, 0, none⟩)) (hy : a.eval y = .agg #[v0]) (h1 : (#[v0] : Array Value).all (·.oneCell') = true)
    (H : wpList P ops Q rest (a.put dst undef) (W.alloc (.cells #[v0] t))) : wpList P ops Q ({ dst := dst, op := .store t x y, type := ty, pos := pos, after := after, guard := none } :: rest) a (W.alloc (.cells #[z0] t)) :=
  estoreL (cs := #[v0]) T.size rfl h1 hx hy H

theorem eload2L {dst : Option Tmp} {ty t : TypeId} {x : Operand} {pos : String} {after : Array Edge} {b o : Nat} {v0 v1 : Value} (T : RowK P t 2) (k : W.rangeAt b o [v0, v1]) (hx : a.eval x = .pointer (some ⟨b, o, none⟩))
    (H : wpList P ops Q rest (a.put dst (.agg #[v0, v1])) W) : wpList P ops Q ({ dst := dst, op := .load t x, type := ty, pos := pos, after := after, guard := none } :: rest) a W :=
  eloadL (cs := [v0, v1]) T k hx H

theorem estore2L {dst : Option Tmp} {ty t : TypeId} {x y : Operand} {pos : String} {after : Array Edge} {z0 z1 v0 v1 : Value} (T : RowK P t 2) (hx : a.eval x = .pointer (some ⟨W.heap.size, 0, none⟩)) (hy : a.eval y = .agg #[v0, v1]) (h1 : (#[v0, v1] : Array Value).all (·.oneCell') = true)
    (H : wpList P ops Q rest (a.put dst undef) (W.alloc (.cells #[v0, v1] t))) : wpList P ops Q ({ dst := dst, op := .store t x y, type := ty, pos := pos, after := after, guard := none } :: rest) a (W.alloc (.cells #[z0, z1] t)) :=
  estoreL (cs := #[v0, v1]) T.size rfl h1 hx hy H

theorem eload3L {dst : Option Tmp} {ty t : TypeId} {x : Operand} {pos : String} {after : Array Edge} {b o : Nat} {v0 v1 v2 : Value} (T : RowK P t 3) (k : W.rangeAt b o [v0, v1, v2]) (hx : a.eval x = .pointer (some ⟨b, o, none⟩))
    (H : wpList P ops Q rest (a.put dst (.agg #[v0, v1, v2])) W) : wpList P ops Q ({ dst := dst, op := .load t x, type := ty, pos := pos, after := after, guard := none } :: rest) a W :=
  eloadL (cs := [v0, v1, v2]) T k hx H

theorem estore3L {dst : Option Tmp} {ty t : TypeId} {x y : Operand} {pos : String} {after : Array Edge} {z0 z1 z2 v0 v1 v2 : Value} (T : RowK P t 3) (hx : a.eval x = .pointer (some ⟨W.heap.size, 0, none⟩)) (hy : a.eval y = .agg #[v0, v1, v2]) (h1 : (#[v0, v1, v2] : Array Value).all (·.oneCell') = true)
    (H : wpList P ops Q rest (a.put dst undef) (W.alloc (.cells #[v0, v1, v2] t))) : wpList P ops Q ({ dst := dst, op := .store t x y, type := ty, pos := pos, after := after, guard := none } :: rest) a (W.alloc (.cells #[z0, z1, z2] t)) :=
  estoreL (cs := #[v0, v1, v2]) T.size rfl h1 hx hy H

theorem eload4L {dst : Option Tmp} {ty t : TypeId} {x : Operand} {pos : String} {after : Array Edge} {b o : Nat} {v0 v1 v2 v3 : Value} (T : RowK P t 4) (k : W.rangeAt b o [v0, v1, v2, v3]) (hx : a.eval x = .pointer (some ⟨b, o, none⟩))
    (H : wpList P ops Q rest (a.put dst (.agg #[v0, v1, v2, v3])) W) : wpList P ops Q ({ dst := dst, op := .load t x, type := ty, pos := pos, after := after, guard := none } :: rest) a W :=
  eloadL (cs := [v0, v1, v2, v3]) T k hx H

theorem estore4L {dst : Option Tmp} {ty t : TypeId} {x y : Operand} {pos : String} {after : Array Edge} {z0 z1 z2 z3 v0 v1 v2 v3 : Value} (T : RowK P t 4) (hx : a.eval x = .pointer (some ⟨W.heap.size, 0, none⟩)) (hy : a.eval y = .agg #[v0, v1, v2, v3]) (h1 : (#[v0, v1, v2, v3] : Array Value).all (·.oneCell') = true)
    (H : wpList P ops Q rest (a.put dst undef) (W.alloc (.cells #[v0, v1, v2, v3] t))) : wpList P ops Q ({ dst := dst, op := .store t x y, type := ty, pos := pos, after := after, guard := none } :: rest) a (W.alloc (.cells #[z0, z1, z2, z3] t)) :=
  estoreL (cs := #[v0, v1, v2, v3]) T.size rfl h1 hx hy H
end

section
variable {P : Program} {ops : Array Oper} {rest : List Oper} {o : Oper} {a : Act} {Q : Exit → Act → World → Prop}

theorem grownBy_self (w : World) (row : Option Nat) : w.grownBy w row := ⟨rfl, rfl, rfl, Nat.le_refl _, fun _ _ _ => rfl⟩

/-- 'append(s, xs...)' onto an owned slice of integers: of what lay, its own row alone has changed. -/
theorem wpList_appG (W : World) (hgd : o.guard = none) (s x : Operand) (t : TypeId) (ho : o.op = .call { callee := .builtin .append, args := #[s, x], argTypes := #[t, t] })
    {e : TypeId} {k : IntKind} {bytes : Nat} (E : Elem P t e k bytes) {base n c : Nat} {A : Option Addr} {l : List Int} (own : Own W base e k A n c l) (hs : a.eval s = .slice A n c)
    {B m d : Nat} {A2 : Option Addr} {l2 : List Int} (R : Rd W B k A2 m l2) (hx : a.eval x = .slice A2 m d) (h63 : n + m ≤ maxLen) (hb : (n + m) * bytes ≤ 140737488355328)
    (h : ∀ A' n' c' W1, Own W1 base e k A' n' c' (l ++ l2) → Below base W W1 → W.grownBy W1 (Value.slice A n c).ownBlock → wpList P ops Q rest (a.put o.dst (.slice A' n' c')) W1) : wpList P ops Q (o :: rest) a W := by
  refine wpList_plain hgd fun K hK => ?_
  have hrun : ∃ A' c' W1, (Builtin.append_ #[t, t] o.type #[.slice A n c, .slice A2 m d]).run P W = .ok (.slice A' (n + m) c') W1 ∧ Own W1 base e k A' (n + m) c' (l ++ l2) ∧ Below base W W1 ∧ W.grownBy W1 (Value.slice A n c).ownBlock := by
    obtain ⟨ht, i, hi, hz, hsize, hby⟩ := E
    have hrng : ∀ x ∈ l ++ l2, k.min ≤ x ∧ x ≤ k.max := by
      intro x hx
      rcases List.mem_append.1 hx with hx | hx
      · exact own.2.1 x hx
      · exact R.2.1 x hx
    by_cases hm : m = 0
    · subst hm
      have hl2 : l2 = [] := List.eq_nil_of_length_eq_zero R.1
      subst hl2
      rcases A2 with _ | ad
      · exact ⟨A, c, W, run_append_of_nil' W base t _ e i 1 ht hi _ n _ own.1 d, by simpa using own, Below.refl _ _, grownBy_self _ _⟩
      · obtain ⟨v', w', hrun, h2, h3, _, _⟩ := run_append_own_at (P := P) W base t o.type e i (.int k 0) 1 bytes ht hi hz hsize hby rfl (by decide) _ n _ own.1 ad 0 d [] rfl (by simp) (by simp) h63 hb own.2.2
        obtain ⟨A', c', rfl⟩ := form_of_own h2
        exact ⟨A', c', w', hrun, ⟨by simpa using h2, hrng, Nat.le_trans own.2.2 h3.size⟩, (Below.refl _ _).grown h3 own.2.2 fun g hg => (own.1.lt g hg).1, h3⟩
    · obtain ⟨b, off, rfl, _, hc⟩ := R.2.2 (by omega)
      obtain ⟨v', w', hrun, h2, h3, _, _⟩ := run_append_own_at (P := P) W base t o.type e i (.int k 0) 1 bytes ht hi hz hsize hby rfl (by decide) _ n _ own.1 ⟨b, off, none⟩ m d (l2.map (Value.int k)) (by simp [R.1])
        (fun j u hu => by
          rw [List.getElem?_map, Option.map_eq_some_iff] at hu
          obtain ⟨x, hx, rfl⟩ := hu
          rw [add_plain']
          exact hc j x hx) (oneCell_ints k l2) h63 hb own.2.2
      obtain ⟨A', c', rfl⟩ := form_of_own h2
      exact ⟨A', c', w', hrun, ⟨by simpa using h2, hrng, Nat.le_trans own.2.2 h3.size⟩, (Below.refl _ _).grown h3 own.2.2 fun g hg => (own.1.lt g hg).1, h3⟩
  obtain ⟨A', c', W1, hrun, h2, h3, h4⟩ := hrun
  unfold Oper.wp execOp
  simp only [ho, resolve, invoke, builtin, Sem.run_bind, Sem.run_pure, Result.andThen_ok, List.map_toArray, List.map_cons, List.map_nil, hs, hx]
  rw [hrun]
  exact hK _ _ (h _ _ _ _ h2 h3 h4)

/-- What lies in a block that is not the own row's stays. -/
theorem rangeAt_grown {w w' : World} {row : Option Nat} {b o : Nat} {vs : List Value} (h : w.rangeAt b o vs) (g : w.grownBy w' row) (hne : some b ≠ row) : w'.rangeAt b o vs := fun j v hv => g.cell (h j v hv) hne

/-- A block laid behind an owned slice is not its row. -/
theorem Own.off {w : World} {base n c b : Nat} {A : Option Addr} {e : TypeId} {k : IntKind} {l : List Int} (h : Own w base e k A n c l) (hb : w.heap.size ≤ b) : some b ≠ (Value.slice A n c).ownBlock := fun q => by
  have := (h.1.lt b q.symm).2
  omega

end

section
variable {P : Program} {ops : Array Oper} {C : World → Prop}

/-- A whole element loaded, in a region that draws its order. -/
theorem quiet_eload {K : Act → Prop} {op : Oper} {a : Act} {b o : Nat} {cs : List Value} {k : Nat} (ty : TypeId) (x : Operand) (ho : op.op = .load ty x) (T : RowK P ty k) (hk : cs.length = k)
    (hc : ∀ W, C W → W.rangeAt b o cs) (hx : a.eval x = .pointer (some ⟨b, o, none⟩)) (h : K (a.put op.dst (.agg cs.toArray))) : op.quiet P a C K :=
  ⟨_, fun W hW => by
    obtain ⟨⟨d, h1, h2⟩, h3⟩ := T
    subst hk
    unfold Oper.quietAt execOp
    simp only [ho, hx, Instr.loadAt, Instr.sureAddr, Sem.run_bind, Sem.run_pure, Result.andThen_ok, run_loadVar_mid W b o ty cs d (hc W hW) h1 h2 h3]
    exact ⟨rfl, rfl⟩, h⟩

/-- .. the value a letter. -/
theorem quiet_eloadT {T : Value} {K : Act → Prop} {op : Oper} {a : Act} {b o : Nat} {cs : List Value} {k : Nat} (ty : TypeId) (x : Operand) (ho : op.op = .load ty x) (R : RowK P ty k) (hk : cs.length = k)
    (hc : ∀ W, C W → W.rangeAt b o cs) (hT : Value.agg cs.toArray = T) (hx : a.eval x = .pointer (some ⟨b, o, none⟩)) (h : K (a.put op.dst T)) : op.quiet P a C K := by
  subst hT
  exact quiet_eload ty x ho R hk hc hx h

/-- 'make([]T, 0, n)' of integers. -/
theorem wpList_make0 {Q : Exit → Act → World → Prop} {rest : List Oper} {o : Oper} {a : Act} (W : World) (hg : o.guard = none) (l c : Operand) (t : TypeId) (hop : o.op = Op.makeSlice t l c) {e : TypeId} {k : IntKind} {bytes : Nat} (E : Elem P t e k bytes) (n : Nat)
    (kl kc : IntKind) (hl : a.eval l = .int kl 0) (hc : a.eval c = .int kc (n : Int)) (hb : bytes * n ≤ 281474976710656) (hm : n ≤ maxLen) (base : Nat) (hbase : base ≤ W.heap.size)
    (h : ∀ A1 W1, Own W1 base e k A1 0 n [] → Below W.heap.size W W1 → wpList P ops Q rest (a.put o.dst (.slice A1 0 n)) W1) : wpList P ops Q (o :: rest) a W := by
  obtain ⟨ht, i, hi, hz, hsize, hby⟩ := E
  subst hby
  refine wpList_make_own W hg l c t hop base e i _ 1 ht hi hz hsize kl kc (n : Int) n hl hc rfl hb hm hbase fun w' o1 g1 => ?_
  have B : Below W.heap.size W w' := (Below.refl _ _).grown g1 (Nat.le_refl _) (fun g hg => by cases hg)
  exact h _ w' ⟨o1, by simp, Nat.le_trans hbase B.size⟩ B
end

/-! ### append, told in full: what stays, where the new slice lies -/
section
variable {P : Program} {ops : Array Oper} {rest : List Oper} {o : Oper} {a : Act} {Q : Exit → Act → World → Prop} {α : Type} {enc : α → List Value} {k : Nat}

/-- Of what lay in W only the row of 'A n c' may have changed; the slice that begins at A' lies in that row or in a new block. -/
def Apart (W W1 : World) (A A' : Option Addr) : Prop :=
  (∀ g, g < W.heap.size → (∀ r, A = some r → r.block ≠ g) → W1.heap[g]? = W.heap[g]?) ∧ (∀ r', A' = some r' → (∃ r, A = some r ∧ r.block = r'.block) ∨ W.heap.size ≤ r'.block) ∧ W.heap.size ≤ W1.heap.size

theorem Apart.trans {W W1 W2 : World} {A A' : Option Addr} (h : Apart W1 W2 A A') (B : Below W.heap.size W W1) : Apart W W2 A A' :=
  ⟨fun g hg hr => (h.1 g (Nat.lt_of_lt_of_le hg B.size) hr).trans (B.block g hg), fun r hr => (h.2.1 r hr).imp id (fun q => Nat.le_trans B.size q), Nat.le_trans B.size h.2.2⟩

/-- What does not lie in that row stays. -/
theorem Apart.same {W W1 : World} {A A' : Option Addr} (h : Apart W W1 A A') {g : Nat} (hg : g < W.heap.size) (hr : ∀ r, A = some r → r.block ≠ g) : W1.heap[g]? = W.heap[g]? := h.1 g hg hr

theorem run_appF (W : World) {t ty e : TypeId} {i : TypeInfo} {z : Value} {bytes : Nat} (ht : P.underlying t = some (.slice e)) (hi : P.info? e = some i) (hz : i.zero = some z) (hzs : z.cells.size = k) (hsize : i.size = k) (hby : i.bytes = bytes) (hk : 0 < k)
    {base n c : Nat} {A : Option Addr} {xs : List Value} (own : W.ownsRow base e k (.slice A n c) n xs) (hbase : base ≤ W.heap.size) {m d : Nat} {A2 : Option Addr} {news : List Value} (hl : news.length = m * k)
    (src : 0 < m → ∃ b off, A2 = some ⟨b, off, none⟩ ∧ ∀ j u, news[j]? = some u → W.cell? ⟨b, off + j, none⟩ = some u) (h1 : ∀ u ∈ news, u.oneCell' = true) (h63 : n + m ≤ maxLen) (hb : (n + m) * bytes ≤ 140737488355328) :
    ∃ A' c' W1, (Builtin.append_ #[t, t] ty #[.slice A n c, .slice A2 m d]).run P W = .ok (.slice A' (n + m) c') W1 ∧ W1.ownsRow base e k (.slice A' (n + m) c') (n + m) (xs ++ news) ∧ W.grownBy W1 (Value.slice A n c).ownBlock ∧ Apart W W1 A A' := by
  have fin : ∀ {a2 : Addr} {A' : Option Addr} {c' : Nat} {W1 : World}, W.grownBy W1 (Value.slice A n c).ownBlock → ((Value.slice A' (n + m) c').ownBlock = (Value.slice A n c).ownBlock ∨ (Value.slice A' (n + m) c').ownBlock = some W.heap.size) → Apart W W1 A A' := by
    intro a2 A' c' W1 hg hv
    refine ⟨fun g hgl hr => hg.block g hgl fun q => ?_, fun r' hr' => ?_, hg.size⟩
    · cases A with
      | none => cases q
      | some r => simp only [Value.ownBlock, Option.some.injEq] at q; exact hr r rfl q.symm
    · subst hr'
      rcases hv with hv | hv
      · cases A with
        | none => cases hv
        | some r => simp only [Value.ownBlock, Option.some.injEq] at hv; exact .inl ⟨r, rfl, hv.symm⟩
      · simp only [Value.ownBlock, Option.some.injEq] at hv; exact .inr (by omega)
  by_cases hm : m = 0
  · subst hm
    have hn : news = [] := List.eq_nil_of_length_eq_zero (by simpa using hl)
    subst hn
    rcases A2 with _ | ad
    · exact ⟨A, c, W, run_append_of_nil' W base t ty e i k ht hi _ n _ own d, by simpa using own, grownBy_self _ _, fun _ _ _ => rfl, fun r hr => .inl ⟨r, hr, rfl⟩, Nat.le_refl _⟩
    · obtain ⟨v', w', hrun, h2, h3, _, h5⟩ := run_append_own_at (P := P) W base t ty e i z k bytes ht hi hz hsize hby hzs hk _ n _ own ad 0 d [] (by simp) (by simp) (by simp) h63 hb hbase
      obtain ⟨A', c', rfl⟩ := form_of_own h2
      exact ⟨A', c', w', hrun, h2, h3, fin (a2 := ad) h3 h5⟩
  · obtain ⟨b, off, rfl, hc⟩ := src (by omega)
    obtain ⟨v', w', hrun, h2, h3, _, h5⟩ := run_append_own_at (P := P) W base t ty e i z k bytes ht hi hz hsize hby hzs hk _ n _ own ⟨b, off, none⟩ m d news hl (fun j u hu => by rw [add_plain']; exact hc j u hu) h1 h63 hb hbase
    obtain ⟨A', c', rfl⟩ := form_of_own h2
    exact ⟨A', c', w', hrun, h2, h3, fin (a2 := ⟨b, off, none⟩) h3 h5⟩

/-- 'append(s, v)' of one element onto an owned slice; its cells have just been laid. -/
theorem wpList_app1H (W : World) (hgd : o.guard = none) (s x : Operand) (t : TypeId) (ho : o.op = .call { callee := .builtin .append, args := #[s, x], argTypes := #[t, t] })
    {e : TypeId} {bytes : Nat} (N : Enc enc k) (E : ElemE P t e k bytes) {base n c : Nat} {A : Option Addr} {l : List α} (own : OwnE enc k W base e A n c l) (hs : a.eval s = .slice A n c)
    (v : α) {cs : Array Value} (hcs : cs = (enc v).toArray) (hx : a.eval x = .slice (some ⟨W.heap.size, 0, none⟩) 1 1) (h63 : n + 1 ≤ maxLen) (hb : (n + 1) * bytes ≤ 140737488355328)
    (h : ∀ A' c' W1, OwnE enc k W1 base e A' (n + 1) c' (l ++ [v]) → Below base W W1 → Apart W W1 A A' → wpList P ops Q rest (a.put o.dst (.slice A' (n + 1) c')) W1) : wpList P ops Q (o :: rest) a (W.alloc (.cells cs e)) := by
  subst hcs
  have BW : Below W.heap.size W (W.alloc (.cells (enc v).toArray e)) := (Below.refl _ _).alloc (Nat.le_refl _) _
  refine wpList_plain hgd fun K hK => ?_
  obtain ⟨ht, i, z, hi, hz, hzs, hsize, hby⟩ := E
  have own' := own.on BW
  obtain ⟨A', c', W1, hrun, h2, h3, h4⟩ := run_appF (P := P) (ty := o.type) (W.alloc (.cells (enc v).toArray e)) ht hi hz hzs hsize hby N.pos own'.1 own'.2.1 (A2 := some ⟨W.heap.size, 0, none⟩) (m := 1) (d := 1) (news := enc v) (by rw [N.len, Nat.one_mul])
    (fun _ => ⟨_, _, rfl, fun j u hu => by rw [Nat.zero_add]; simpa using hu⟩) (N.one v) h63 hb
  unfold Oper.wp execOp
  simp only [ho, resolve, invoke, builtin, Sem.run_bind, Sem.run_pure, Result.andThen_ok, List.map_toArray, List.map_cons, List.map_nil, hs, hx]
  rw [hrun]
  exact hK _ _ (h _ _ _ ⟨by simpa using h2, Nat.le_trans own'.2.1 h3.size, by simp [own.2.2]⟩ ((BW.mono own.2.1).trans ((Below.refl _ _).grown h3 own'.2.1 fun g hg => (own'.1.lt g hg).1)) (h4.trans BW))

/-- 'append(s, xs...)' onto an owned slice. -/
theorem wpList_appH (W : World) (hgd : o.guard = none) (s x : Operand) (t : TypeId) (ho : o.op = .call { callee := .builtin .append, args := #[s, x], argTypes := #[t, t] })
    {e : TypeId} {bytes : Nat} (N : Enc enc k) (E : ElemE P t e k bytes) {base n c : Nat} {A : Option Addr} {l : List α} (own : OwnE enc k W base e A n c l) (hs : a.eval s = .slice A n c)
    {B m d : Nat} {A2 : Option Addr} {l2 : List α} (R : RdE enc k W B A2 m l2) (hx : a.eval x = .slice A2 m d) (h63 : n + m ≤ maxLen) (hb : (n + m) * bytes ≤ 140737488355328)
    (h : ∀ A' c' W1, OwnE enc k W1 base e A' (n + m) c' (l ++ l2) → Below base W W1 → Apart W W1 A A' → wpList P ops Q rest (a.put o.dst (.slice A' (n + m) c')) W1) : wpList P ops Q (o :: rest) a W := by
  refine wpList_plain hgd fun K hK => ?_
  obtain ⟨ht, i, z, hi, hz, hzs, hsize, hby⟩ := E
  obtain ⟨A', c', W1, hrun, h2, h3, h4⟩ := run_appF (P := P) (ty := o.type) W ht hi hz hzs hsize hby N.pos own.1 own.2.1 (A2 := A2) (m := m) (d := d) (news := l2.flatMap enc) (by rw [encs_len N, R.1])
    (fun hm => by
      obtain ⟨b, off, hA, _, hc⟩ := R.2 hm
      refine ⟨b, off, hA, fun j u hu => ?_⟩
      have hj : j < m * k := by rw [← R.1, ← encs_len N]; exact (List.getElem?_eq_some_iff.1 hu).1
      have hq : j / k < l2.length := by rw [R.1]; exact (Nat.div_lt_iff_lt_mul N.pos).2 hj
      have hx := List.getElem?_eq_getElem hq
      have hr : j % k < (enc l2[j / k]).length := by rw [N.len]; exact Nat.mod_lt _ N.pos
      have hv := List.getElem?_eq_getElem hr
      have e1 : j / k * k + j % k = j := by rw [Nat.mul_comm]; exact Nat.div_add_mod j k
      have g := encs_get N hx hv
      rw [e1, hu] at g
      have c1 := hc _ _ hx _ _ hv
      rw [Nat.add_assoc, e1] at c1
      rw [c1, ← g]) (oneCell_encs N l2) h63 hb
  unfold Oper.wp execOp
  simp only [ho, resolve, invoke, builtin, Sem.run_bind, Sem.run_pure, Result.andThen_ok, List.map_toArray, List.map_cons, List.map_nil, hs, hx]
  rw [hrun]
  exact hK _ _ (h _ _ _ ⟨by simpa using h2, Nat.le_trans own.2.1 h3.size, by simp [own.2.2, R.1]⟩ ((Below.refl _ _).grown h3 own.2.1 fun g hg => (own.1.lt g hg).1) h4)

/-- What an owned slice reads as stays, where its block stays. -/
theorem OwnE.stay {w w' : World} {base n c : Nat} {e : TypeId} {A : Option Addr} {l : List α} (h : OwnE enc k w base e A n c l) (q : ∀ g, A = some g → w'.heap[g.block]? = w.heap[g.block]?) (hs : base ≤ w'.heap.size) : OwnE enc k w' base e A n c l := by
  refine ⟨⟨h.1.1, h.1.2.imp id ?_⟩, hs, h.2.2⟩
  rintro ⟨g, cap, cur, hv, hb, hh, rest⟩
  refine ⟨g, cap, cur, hv, hb, ?_, rest⟩
  simp only [Value.slice.injEq] at hv
  rw [q _ hv.1]; exact hh
theorem OwnE.lt {w : World} {base n c : Nat} {e : TypeId} {A : Option Addr} {l : List α} (h : OwnE enc k w base e A n c l) {g : Addr} (hg : A = some g) : base ≤ g.block ∧ g.block < w.heap.size := h.1.lt g.block (by subst hg; rfl)

/-- The owned slice of integers in these words. -/
def enc1 (kd : IntKind) (x : Int) : List Value := [.int kd x]
theorem enc1_is (kd : IntKind) : Enc (enc1 kd) 1 := ⟨fun _ => rfl, by decide, fun x v hv => by simp [enc1] at hv; subst hv; rfl⟩
theorem flatMap_enc1 (kd : IntKind) (l : List Int) : l.flatMap (enc1 kd) = l.map (Value.int kd) := by
  induction l with
  | nil => rfl
  | cons x r ih => rw [List.flatMap_cons, ih]; rfl
theorem Own.toE {w : World} {base n c : Nat} {e : TypeId} {kd : IntKind} {A : Option Addr} {l : List Int} (h : Own w base e kd A n c l) : OwnE (enc1 kd) 1 w base e A n c l := ⟨by rw [flatMap_enc1]; exact h.1, h.2.2, h.len⟩
theorem OwnE.toI {w : World} {base n c : Nat} {e : TypeId} {kd : IntKind} {A : Option Addr} {l : List Int} (h : OwnE (enc1 kd) 1 w base e A n c l) (hr : ∀ x ∈ l, kd.min ≤ x ∧ x ≤ kd.max) : Own w base e kd A n c l := ⟨by rw [← flatMap_enc1]; exact h.1, hr, h.2.1⟩
theorem Elem.toE {t e : TypeId} {kd : IntKind} {bytes : Nat} (E : Elem P t e kd bytes) : ElemE P t e 1 bytes := by
  obtain ⟨ht, i, hi, hz, hs, hb⟩ := E
  exact ⟨ht, i, _, hi, hz, rfl, hs, hb⟩
end

end Go.Proofs.Ytcnemjkcihlpeaa
