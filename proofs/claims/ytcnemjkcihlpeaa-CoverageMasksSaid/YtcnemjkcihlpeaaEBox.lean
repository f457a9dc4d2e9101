/- A block of several cells (an array, a struct) that may be written. No function of a program is named here. -/
import Derived.Test.YtcnemjkcihlpeaaRowE
import Derived.Test.YtcnemjkcihlpeaaBelow
namespace Go.Proofs.Ytcnemjkcihlpeaa
set_option linter.unusedSimpArgs false
open Go.ChangeShapes Go.WideShapes Go.RowKit Go.Sort

/-- Block b begins with the values vs, and may be written. -/
def EBox (W : World) (b : Nat) (vs : List Value) : Prop := W.rangeAt b 0 vs ∧ ∀ i, W.frozen? ⟨b, i, none⟩ = false

section
variable {W V : World} {b B c : Nat} {vs : List Value}

theorem EBox.cell (h : EBox W b vs) {i : Nat} {v : Value} (hv : vs[i]? = some v) : W.cell? ⟨b, i, none⟩ = some v := by
  have := h.1 i v hv
  rwa [Nat.zero_add] at this
theorem EBox.lt (h : EBox W b vs) (h0 : 0 < vs.length) : b < W.heap.size := block_lt_of_cell (h.cell (List.getElem?_eq_getElem h0))
theorem EBox.below (h : EBox W b vs) (hb : b < B) (k : Below B W V) : EBox V b vs := ⟨rangeAt_below h.1 hb k, fun i => (k.frozen (p := ⟨b, i, none⟩) hb).trans (h.2 i)⟩
theorem EBox.on (h : EBox W b vs) (h0 : 0 < vs.length) (k : Below W.heap.size W V) : EBox V b vs := h.below (h.lt h0) k
theorem EBox.made (W : World) (cs : Array Value) (t : TypeId) : EBox (W.alloc (.cells cs t)) W.heap.size cs.toList :=
  ⟨fun j v hv => by rw [Nat.zero_add]; exact box_cell W cs t j v (by simpa using hv), fun i => by simp⟩
theorem EBox.keep (h : EBox W b vs) (hne : b ≠ c) (hc : ∀ a : Addr, a.block ≠ c → V.cell? a = W.cell? a) (hf : ∀ a : Addr, V.frozen? a = W.frozen? a) : EBox V b vs :=
  ⟨fun j v hv => (hc _ hne).trans (h.1 j v hv), fun i => (hf _).trans (h.2 i)⟩
theorem EBox.stay (h : EBox W b vs) (q : V.heap[b]? = W.heap[b]?) : EBox V b vs := by
  refine ⟨fun j v hv => ?_, fun i => ?_⟩
  · rw [World.cell?_of_block (a := ⟨b, 0 + j, none⟩) q]; exact h.1 j v hv
  · rw [World.frozen?_of_block (a := ⟨b, i, none⟩) q]; exact h.2 i
end

section
variable {P : Program} {ops : Array Oper} {Q : Exit → Act → World → Prop} {rest : List Oper} {a : Act} {W : World} {b : Nat}

/-- Stored whole, as the operation is written out. -/
theorem esetL {dst : Option Tmp} {ty t : TypeId} {x y : Operand} {pos : String} {after : Array Edge} {us vs : List Value} {k : Nat} (T : RowK P t k) (hu : us.length = k) (hv : vs.length = k) (K : EBox W b us) (hx : a.eval x = .pointer (some ⟨b, 0, none⟩)) (hy : a.eval y = .agg vs.toArray) (h1 : ∀ v ∈ vs, v.oneCell' = true)
    (H : ∀ V, EBox V b vs → Below b W V → (∀ a : Addr, a.block ≠ b → V.cell? a = W.cell? a) → (∀ a : Addr, V.frozen? a = W.frozen? a) → wpList P ops Q rest (a.put dst undef) V) :
    wpList P ops Q ({ dst := dst, op := .store t x y, type := ty, pos := pos, after := after, guard := none } :: rest) a W := by
  have ht : W.there b 0 vs.length := by
    intro j hj
    refine ⟨?_, K.2 _⟩
    have hj' : j < us.length := by omega
    rw [K.1 j _ (List.getElem?_eq_getElem hj')]
    rfl
  have hB : ∀ (vs : List Value) (o : Nat) (V : World), Below b W V → Below b W (V.setCells b o vs) := by
    intro vs
    induction vs with
    | nil => intro o V h; exact h
    | cons v r ih => intro o V h; exact ih (o + 1) _ (h.setCell (Nat.le_refl _) v)
  refine wpList_store_mid rfl t x y rfl b 0 vs.toArray hx hy (by simpa using ht) (by rw [T.size]; simp [hv]) (by simpa using h1) ?_
  have hr := World.rangeAt_setCells_same W b 0 vs ht
  refine H _ ⟨by simpa using hr, fun i => ?_⟩ (by simpa using hB vs 0 W (Below.refl _ _)) (fun a ha => ?_) (fun a => ?_)
  · rw [World.frozen?_setCells]; exact K.2 i
  · exact World.cell?_setCells_out b _ _ _ _ (fun h => absurd h ha)
  · exact World.frozen?_setCells b _ _ _ _

theorem eset2L {dst : Option Tmp} {ty t : TypeId} {x y : Operand} {pos : String} {after : Array Edge} {u0 u1 : Value} {k0 k1 : IntKind} {x0 x1 : Int} (T : RowK P t 2) (K : EBox W b [u0, u1]) (hx : a.eval x = .pointer (some ⟨b, 0, none⟩)) (hy : a.eval y = .agg #[.int k0 x0, .int k1 x1])
    (H : ∀ V, EBox V b [.int k0 x0, .int k1 x1] → Below b W V → (∀ a : Addr, a.block ≠ b → V.cell? a = W.cell? a) → (∀ a : Addr, V.frozen? a = W.frozen? a) → wpList P ops Q rest (a.put dst undef) V) :
    wpList P ops Q ({ dst := dst, op := .store t x y, type := ty, pos := pos, after := after, guard := none } :: rest) a W :=
  esetL T rfl rfl K hx hy (fun v hv => by simp at hv; rcases hv with rfl | rfl <;> rfl) H

theorem eset3L {dst : Option Tmp} {ty t : TypeId} {x y : Operand} {pos : String} {after : Array Edge} {u0 u1 u2 : Value} {k0 k1 k2 : IntKind} {x0 x1 x2 : Int} (T : RowK P t 3) (K : EBox W b [u0, u1, u2]) (hx : a.eval x = .pointer (some ⟨b, 0, none⟩)) (hy : a.eval y = .agg #[.int k0 x0, .int k1 x1, .int k2 x2])
    (H : ∀ V, EBox V b [.int k0 x0, .int k1 x1, .int k2 x2] → Below b W V → (∀ a : Addr, a.block ≠ b → V.cell? a = W.cell? a) → (∀ a : Addr, V.frozen? a = W.frozen? a) → wpList P ops Q rest (a.put dst undef) V) :
    wpList P ops Q ({ dst := dst, op := .store t x y, type := ty, pos := pos, after := after, guard := none } :: rest) a W :=
  esetL T rfl rfl K hx hy (fun v hv => by simp at hv; rcases hv with rfl | rfl | rfl <;> rfl) H

theorem app1Z {α : Type} {enc : α → List Value} {k : Nat} {o : Oper} (W : World) (hgd : o.guard = none) (s x : Operand) (t : TypeId) (ho : o.op = .call { callee := .builtin .append, args := #[s, x], argTypes := #[t, t] })
    {e : TypeId} {bytes : Nat} (N : Enc enc k) (E : ElemE P t e k bytes) {base n c : Nat} {A : Option Addr} {l : List α} (own : OwnE enc k W base e A n c l) (hs : a.eval s = .slice A n c)
    (v : α) {cs : Array Value} (hcs : cs = (enc v).toArray) {z : Nat} (hx : a.eval x = .slice (some ⟨z, 0, none⟩) 1 1) (hz : W.heap.size = z) (h63 : n + 1 ≤ maxLen) (hb : (n + 1) * bytes ≤ 140737488355328)
    (h : ∀ A' n' c' W1, OwnE enc k W1 base e A' n' c' (l ++ [v]) → Below base W W1 → wpList P ops Q rest (a.put o.dst (.slice A' n' c')) W1) : wpList P ops Q (o :: rest) a (W.alloc (.cells cs e)) := by
  subst hz
  exact wpList_app1E W hgd s x t ho N E own hs v hcs hx h63 hb h

end

end Go.Proofs.Ytcnemjkcihlpeaa
