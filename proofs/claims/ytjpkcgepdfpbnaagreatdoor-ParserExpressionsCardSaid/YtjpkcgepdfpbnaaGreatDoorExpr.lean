/- Expressions as trees, and how they lie in memory: five cells each, the arguments as a slice of such. No function of a program is named here. -/
import Derived.Test.YtjpkcgepdfpbnaaGreatDoorRowE
import Derived.Test.YtjpkcgepdfpbnaaGreatDoorBelow
namespace Go.Proofs.YtjpkcgepdfpbnaaGreatDoor
open Go.ChangeShapes Go.WideShapes Go.RowKit
set_option linter.unusedVariables false

/-- An expression: kind, operator, name, value, arguments. -/
inductive Ex where
  | mk : Int → Int → ByteArray → Int → List Ex → Ex

namespace Ex
def k : Ex → Int | mk a _ _ _ _ => a
def o : Ex → Int | mk _ a _ _ _ => a
def s : Ex → ByteArray | mk _ _ a _ _ => a
def v : Ex → Int | mk _ _ _ a _ => a
def l : Ex → List Ex | mk _ _ _ _ a => a

theorem eta (e : Ex) : Ex.mk e.k e.o e.s e.v e.l = e := by cases e; rfl
theorem ext' {a b : Ex} (h1 : a.k = b.k) (h2 : a.o = b.o) (h3 : a.s = b.s) (h4 : a.v = b.v) (h5 : a.l = b.l) : a = b := by rw [← eta a, ← eta b, h1, h2, h3, h4, h5]

mutual
/-- The number of expressions in one. -/
def nodes : Ex → Nat | mk _ _ _ _ a => nodesL a + 1
def nodesL : List Ex → Nat | [] => 0 | x :: r => nodes x + nodesL r
end

mutual
/-- The depth. -/
def dep : Ex → Nat | mk _ _ _ _ a => depL a + 1
def depL : List Ex → Nat | [] => 0 | x :: r => max (dep x) (depL r)
end

theorem nodes_eq (e : Ex) : e.nodes = nodesL e.l + 1 := by cases e; rw [nodes]; rfl
theorem dep_eq (e : Ex) : e.dep = depL e.l + 1 := by cases e; rw [dep]; rfl
theorem nodes_pos (e : Ex) : 0 < e.nodes := by rw [nodes_eq]; omega
theorem dep_pos (e : Ex) : 0 < e.dep := by rw [dep_eq]; omega
theorem depL_mem : ∀ {l : List Ex} {x : Ex}, x ∈ l → dep x ≤ depL l
  | y :: r, x, h => by
    rw [depL]
    rcases List.mem_cons.1 h with rfl | h
    · omega
    · have := depL_mem h; omega
theorem nodesL_mem : ∀ {l : List Ex} {x : Ex}, x ∈ l → nodes x ≤ nodesL l
  | y :: r, x, h => by
    rw [nodesL]
    rcases List.mem_cons.1 h with rfl | h
    · omega
    · have := nodesL_mem h; omega
theorem nodesL_app : ∀ (a b : List Ex), nodesL (a ++ b) = nodesL a + nodesL b
  | [], b => by rw [List.nil_append, nodesL]; omega
  | x :: r, b => by rw [List.cons_append, nodesL, nodesL, nodesL_app r b]; omega
theorem depL_app : ∀ (a b : List Ex), depL (a ++ b) = max (depL a) (depL b)
  | [], b => by rw [List.nil_append, depL]; omega
  | x :: r, b => by rw [List.cons_append, depL, depL, depL_app r b]; omega
theorem nodesL_one (x : Ex) : nodesL [x] = nodes x := by rw [nodesL, nodesL]; omega
theorem depL_one (x : Ex) : depL [x] = dep x := by rw [depL, depL]; omega
end Ex

mutual
/-- The arguments of e lie in blocks of D, as the slice 'A n'. -/
def ArgsAt (w : World) (D : Nat → Prop) : Ex → Option Addr → Nat → Prop
  | .mk _ _ _ _ l, A, n => l.length = n ∧ n ≤ maxLen ∧ (0 < n → ∃ b off, A = some ⟨b, off, none⟩ ∧ D b ∧ RowAt w D b off l)
/-- Expressions lie one behind another from cell off of block b on. -/
def RowAt (w : World) (D : Nat → Prop) (b : Nat) : Nat → List Ex → Prop
  | _, [] => True
  | off, e :: r => (∃ A n c, w.rangeAt b off [.int .i64 e.k, .int .i64 e.o, .string e.s, .int .i64 e.v, .slice A n c] ∧ ArgsAt w D e A n) ∧ RowAt w D b (off + 5) r
end

/-- The slice 'A n' reads as the list l of expressions. -/
def RdX (w : World) (D : Nat → Prop) (A : Option Addr) (n : Nat) (l : List Ex) : Prop := l.length = n ∧ n ≤ maxLen ∧ (0 < n → ∃ b off, A = some ⟨b, off, none⟩ ∧ D b ∧ RowAt w D b off l)

theorem argsAt_iff {w : World} {D : Nat → Prop} {e : Ex} {A : Option Addr} {n : Nat} : ArgsAt w D e A n ↔ RdX w D A n e.l := by
  cases e
  rw [ArgsAt]
  rfl

theorem rowAt_cons {w : World} {D : Nat → Prop} {b off : Nat} {e : Ex} {r : List Ex} : RowAt w D b off (e :: r) ↔ (∃ A n c, w.rangeAt b off [.int .i64 e.k, .int .i64 e.o, .string e.s, .int .i64 e.v, .slice A n c] ∧ RdX w D A n e.l) ∧ RowAt w D b (off + 5) r := by
  rw [RowAt]
  simp only [argsAt_iff]

theorem rangeAt_same {w w' : World} {b o : Nat} {vs : List Value} (h : w.rangeAt b o vs) (q : w'.heap[b]? = w.heap[b]?) : w'.rangeAt b o vs := fun j v hv => (World.cell?_of_block (a := ⟨b, o + j, none⟩) q).trans (h j v hv)

mutual
theorem ArgsAt.keep {w w' : World} {D D' : Nat → Prop} (K : ∀ k, D k → w'.heap[k]? = w.heap[k]?) (I : ∀ k, D k → D' k) : ∀ (e : Ex) (A : Option Addr) (n : Nat), ArgsAt w D e A n → ArgsAt w' D' e A n
  | .mk k o s v l, A, n, h => by
    rw [ArgsAt] at h ⊢
    obtain ⟨h1, h2, h3⟩ := h
    refine ⟨h1, h2, fun hn => ?_⟩
    obtain ⟨b, off, hA, hb, h5⟩ := h3 hn
    exact ⟨b, off, hA, I b hb, RowAt.keep K I b hb off l h5⟩
theorem RowAt.keep {w w' : World} {D D' : Nat → Prop} (K : ∀ k, D k → w'.heap[k]? = w.heap[k]?) (I : ∀ k, D k → D' k) (b : Nat) (hb : D b) : ∀ (off : Nat) (l : List Ex), RowAt w D b off l → RowAt w' D' b off l
  | off, [], h => by rw [RowAt]; trivial
  | off, e :: r, h => by
    rw [RowAt] at h ⊢
    obtain ⟨⟨A, n, c, h1, h2⟩, h3⟩ := h
    exact ⟨⟨A, n, c, rangeAt_same h1 (K b hb), ArgsAt.keep K I e A n h2⟩, RowAt.keep K I b hb (off + 5) r h3⟩
end

theorem RdX.keep {w w' : World} {D D' : Nat → Prop} {A : Option Addr} {n : Nat} {l : List Ex} (h : RdX w D A n l) (K : ∀ k, D k → w'.heap[k]? = w.heap[k]?) (I : ∀ k, D k → D' k) : RdX w' D' A n l :=
  ⟨h.1, h.2.1, fun hn => by obtain ⟨b, off, hA, hb, h5⟩ := h.2.2 hn; exact ⟨b, off, hA, I b hb, RowAt.keep K I b hb off l h5⟩⟩
theorem RdX.len {w : World} {D : Nat → Prop} {A : Option Addr} {n : Nat} {l : List Ex} (h : RdX w D A n l) : l.length = n := h.1
theorem RdX.nil (w : World) (D : Nat → Prop) (A : Option Addr) : RdX w D A 0 [] := ⟨rfl, by decide, fun h => absurd h (by omega)⟩

/-- Below the heap's size. -/
def inH (w : World) : Nat → Prop := fun k => k < w.heap.size

theorem RdX.on {w w' : World} {A : Option Addr} {n : Nat} {l : List Ex} (h : RdX w (inH w) A n l) (K : Below w.heap.size w w') : RdX w' (inH w') A n l :=
  h.keep (fun k hk => K.block k hk) (fun k hk => Nat.lt_of_lt_of_le hk K.size)

theorem RowAt.get {w : World} {D : Nat → Prop} {b : Nat} : ∀ {off : Nat} {l : List Ex} {j : Nat} {x : Ex}, RowAt w D b off l → l[j]? = some x → ∃ A n c, w.rangeAt b (off + j * 5) [.int .i64 x.k, .int .i64 x.o, .string x.s, .int .i64 x.v, .slice A n c] ∧ RdX w D A n x.l
  | off, [], j, x, _, hx => by cases hx
  | off, y :: r, j, x, h, hx => by
    rw [rowAt_cons] at h
    obtain ⟨h1, h3⟩ := h
    cases j with
    | zero =>
      rw [List.getElem?_cons_zero] at hx
      injection hx with hx
      subst hx
      rw [Nat.zero_mul, Nat.add_zero]
      exact h1
    | succ j =>
      rw [List.getElem?_cons_succ] at hx
      have g := RowAt.get h3 hx
      rw [show off + (j + 1) * 5 = off + 5 + j * 5 by rw [Nat.add_mul]; omega]
      exact g

/-- An argument's cells. -/
theorem RdX.at_ {w : World} {D : Nat → Prop} {n j : Nat} {A : Option Addr} {l : List Ex} (h : RdX w D A n l) (hj : j < n) :
    ∃ b off x A2 m c, A = some ⟨b, off, none⟩ ∧ D b ∧ Hid (l[j]? = some x) ∧ w.rangeAt b (off + j * 5) [.int .i64 x.k, .int .i64 x.o, .string x.s, .int .i64 x.v, .slice A2 m c] ∧ RdX w D A2 m x.l := by
  obtain ⟨b, off, hA, hb, hx⟩ := h.2.2 (by omega)
  have hl : j < l.length := by rw [h.1]; exact hj
  have hg := List.getElem?_eq_getElem hl
  obtain ⟨A2, m, c, h1, h2⟩ := hx.get hg
  exact ⟨b, off, _, A2, m, c, hA, hb, Lib.hid hg, h1, h2⟩

/-- An expression with the slice of its arguments. -/
structure Hx where
  e : Ex
  A : Option Addr
  n : Nat
  c : Nat

def hxC (x : Hx) : List Value := [.int .i64 x.e.k, .int .i64 x.e.o, .string x.e.s, .int .i64 x.e.v, .slice x.A x.n x.c]

theorem hxEnc : Enc hxC 5 := ⟨fun _ => rfl, by decide, fun x v hv => by simp [hxC] at hv; rcases hv with rfl | rfl | rfl | rfl | rfl <;> rfl⟩

/-- The cells of expressions one behind another, whose arguments lie in D. -/
theorem rowAt_of {w : World} {D : Nat → Prop} {b : Nat} : ∀ {off : Nat} {xs : List Hx}, (∀ j x, xs[j]? = some x → w.rangeAt b (off + j * 5) (hxC x)) → (∀ x ∈ xs, RdX w D x.A x.n x.e.l) → RowAt w D b off (xs.map Hx.e)
  | off, [], _, _ => by rw [List.map_nil, RowAt]; trivial
  | off, x :: r, h, h2 => by
    rw [List.map_cons, rowAt_cons]
    refine ⟨⟨x.A, x.n, x.c, ?_, h2 x (by simp)⟩, rowAt_of (off := off + 5) (fun j y hy => ?_) fun y hy => h2 y (by simp [hy])⟩
    · have := h 0 x rfl
      rwa [Nat.zero_mul, Nat.add_zero] at this
    · have := h (j + 1) y (by rw [List.getElem?_cons_succ]; exact hy)
      rwa [show off + (j + 1) * 5 = off + 5 + j * 5 by rw [Nat.add_mul]; omega] at this

theorem rdX_of {w : World} {D : Nat → Prop} {B : Nat} {A : Option Addr} {n : Nat} {xs : List Hx} (R : RdE hxC 5 w B A n xs) (hn : n ≤ maxLen) (hD : ∀ b off, A = some ⟨b, off, none⟩ → b < B → D b) (h : ∀ x ∈ xs, RdX w D x.A x.n x.e.l) : RdX w D A n (xs.map Hx.e) := by
  refine ⟨by rw [List.length_map]; exact R.1, hn, fun h0 => ?_⟩
  obtain ⟨b, off, e, hb, hc⟩ := R.2 h0
  exact ⟨b, off, e, hD b off e hb, rowAt_of hc h⟩

end Go.Proofs.YtjpkcgepdfpbnaaGreatDoor
