/- Slices of values of one cell that a call itself made ('make([]T, n)'): read and written at any index. No function of a program is named here. -/
import Derived.Test.YtfpnbgmmgnpggaaBytes
import Derived.OwnWalk
namespace Go.Proofs.Ytfpnbgmmgnpggaa
set_option linter.unusedSimpArgs false
open Go.ChangeShapes Go.WideShapes Go.RowKit

/-- The slice that begins at block b, its n values. -/
def OwnV (w : World) (base : Nat) (e : TypeId) (b n c : Nat) (l : List Value) : Prop := w.ownsRow base e 1 (.slice (some ⟨b, 0, none⟩) n c) n l ∧ base ≤ w.heap.size

section
variable {w w' : World} {base b n c j : Nat} {e : TypeId} {l : List Value}

theorem OwnV.len (h : OwnV w base e b n c l) : l.length = n := by have := h.1.1; simpa using this

theorem OwnV.on (h : OwnV w base e b n c l) (hb : Below w.heap.size w w') : OwnV w' base e b n c l :=
  ⟨h.1.kept (grown_of_below hb) (by cases hv : Value.ownBlock (.slice (some ⟨b, 0, none⟩) n c) <;> simp), Nat.le_trans h.2 hb.size⟩

theorem OwnV.cell (h : OwnV w base e b n c l) {v : Value} (hv : l[j]? = some v) : w.cell? ⟨b, j, none⟩ = some v := by
  have := h.1.cells rfl j v hv
  rw [add_plain', Nat.zero_add] at this
  exact this

theorem OwnV.frozen (h : OwnV w base e b n c l) : w.frozen? ⟨b, j, none⟩ = false := by
  rcases h.1.2 with ⟨hv, h0⟩ | ⟨g, cap, cur, hv, hb, hh, hnc, hcm, hcs, htake⟩
  · cases hv
  · simp only [Value.slice.injEq, Option.some.injEq] at hv
    obtain ⟨hg, _, rfl⟩ := hv
    injection hg with hg
    subst hg
    exact h.1.frozenAt j

theorem OwnV.base_le (h : OwnV w base e b n c l) : base ≤ b := by
  rcases h.1.2 with ⟨hv, h0⟩ | ⟨g, cap, cur, hv, hb, hh, hnc, hcm, hcs, htake⟩
  · cases hv
  · simp only [Value.slice.injEq, Option.some.injEq] at hv
    obtain ⟨hg, _, rfl⟩ := hv
    injection hg with hg
    subst hg
    exact hb

/-- A value is written. -/
theorem OwnV.set (h : OwnV w base e b n c l) (v : Value) : OwnV (w.setCell ⟨b, j, none⟩ v) base e b n c (l.set j v) ∧ Below base w (w.setCell ⟨b, j, none⟩ v) := by
  have hb := h.base_le
  exact ⟨⟨(h.1.stored j v).1, by simpa using h.2⟩, (Below.refl _ _).setCell hb _⟩

/-- A list of ints made so is an owned slice. -/
theorem OwnV.ints {l : List Int} {k : IntKind} (h : OwnV w base e b n c (l.map (Value.int k))) (hr : ∀ x ∈ l, k.min ≤ x ∧ x ≤ k.max) : Own w base e k (some ⟨b, 0, none⟩) n c l := ⟨h.1, hr, h.2⟩
end

/-- The first place that is not filled yet. -/
theorem fill_set {α : Type} (f : List α) (z v : α) (m : Nat) (j : Nat) (hj : f.length = j) : (f ++ List.replicate (m + 1) z).set j v = (f ++ [v]) ++ List.replicate m z := by
  subst hj
  rw [List.set_append_right _ _ (Nat.le_refl _), Nat.sub_self, List.replicate_succ, List.set_cons_zero, List.append_assoc]
  rfl

theorem madeCells_one (z : Value) (n : Nat) : (madeCells #[z] n).toList = List.replicate n z := by
  apply List.ext_getElem
  · simp [madeCells]
  · intro i h1 h2
    simp [madeCells, Nat.mod_one]

section
variable {P : Program} {ops : Array Oper} {rest : List Oper} {o : Oper} {a : Act} {Q : Exit → Act → World → Prop}

/-- 'make([]T, n)' of values of one cell. -/
theorem wpList_makeV (W : World) (hg : o.guard = none) (l c : Operand) (t : TypeId) (hop : o.op = Op.makeSlice t l c) {e : TypeId} {z : Value} {bytes : Nat} (ht : P.underlying t = some (.slice e))
    (hi : (P.info? e).map (fun i => (i.zero, i.size, i.bytes)) = some (some z, 1, bytes)) (hz : z.cells = #[z]) (kl kc : IntKind) (n : Nat) (hl : a.eval l = .int kl (n : Int)) (hc : a.eval c = .int kc (n : Int))
    (hb : bytes * n ≤ 281474976710656) (hm : n ≤ maxLen) (base : Nat) (hbase : base ≤ W.heap.size)
    (h : ∀ b W1, OwnV W1 base e b n n (List.replicate n z) → Below W.heap.size W W1 → W.heap.size ≤ b → wpList P ops Q rest (a.put o.dst (.slice (some ⟨b, 0, none⟩) n n)) W1) : wpList P ops Q (o :: rest) a W := by
  cases hq : P.info? e with
  | none => rw [hq] at hi; cases hi
  | some i =>
    rw [hq] at hi
    simp only [Option.map_some, Option.some.injEq, Prod.mk.injEq] at hi
    obtain ⟨h1, h2, h3⟩ := hi
    subst h3
    refine wpList_make_full W hg l c t hop base e i z 1 ht hq h1 h2 kl kc (n : Int) (n : Int) n hl hc rfl rfl hb hm hbase fun w' o1 g1 => ?_
    rw [hz, Nat.mul_one, madeCells_one] at o1
    have B : Below W.heap.size W w' := (Below.refl _ _).grown g1 (Nat.le_refl _) (fun g hg => by cases hg)
    exact h W.heap.size w' ⟨o1, Nat.le_trans hbase B.size⟩ B (Nat.le_refl _)
end

end Go.Proofs.Ytfpnbgmmgnpggaa
