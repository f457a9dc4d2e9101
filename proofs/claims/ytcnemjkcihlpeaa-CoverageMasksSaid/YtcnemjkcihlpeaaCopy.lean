/- A region that draws its order and lays new variables ('a, b := x[i], x[j]' of structs): whatever the order of the allocations, one walk, the new blocks as letters. No function of a program is named here. -/
import Derived.Test.YtcnemjkcihlpeaaTree
import Derived.Test.YtcnemjkcihlpeaaEBox
namespace Go.Proofs.Ytcnemjkcihlpeaa
set_option linter.unusedSimpArgs false
open Go.ChangeShapes Go.WideShapes Go.RowKit Go.Sort

section
variable {P : Program} {ops : Array Oper} {Q : Exit → Act → World → Prop} {C : World → Prop}

/-- The zero value of t is these cells. -/
def ZeroIs (P : Program) (t : TypeId) (z : Array Value) : Prop := ∃ i, P.info? t = some i ∧ i.zero = some (.agg z)

theorem zeroIs_of {P : Program} {t : TypeId} {z : Array Value} (h : (P.info? t).bind (·.zero) = some (.agg z)) : ZeroIs P t z := by
  cases hi : P.info? t with
  | none => rw [hi] at h; cases h
  | some i => rw [hi] at h; exact ⟨i, hi, h⟩

/-- A new variable, as the operation is written out. -/
theorem wpList_allocL {rest : List Oper} {a : Act} {W : World} {dst : Option Tmp} {ty t : TypeId} {pos : String} {after : Array Edge} {z : Array Value} (hz : ZeroIs P t z)
    (H : wpList P ops Q rest (a.put dst (.pointer (some ⟨W.heap.size, 0, none⟩))) (W.alloc (.cells z t))) : wpList P ops Q ({ dst := dst, op := .alloc t, type := ty, pos := pos, after := after, guard := none } :: rest) a W := by
  obtain ⟨i, hi, hz⟩ := hz
  refine wpList_plain rfl fun K hK => ?_
  have hr : (Instr.alloc t true (.tuple #[])).run P W = .ok (.pointer (some ⟨W.heap.size, 0, none⟩)) (W.alloc (.cells z t)) := by
    simp [Instr.alloc, zeroValue, typeInfo, hi, hz, newVar, go_sem]
  unfold Oper.wp execOp
  simp only [Sem.run_bind, hr, Result.andThen_ok, Sem.run_pure]
  exact hK _ _ H

theorem put_comm (a : Act) (d1 d2 : Nat) (v1 v2 : Value) (h : d1 ≠ d2) : (a.put (some d1) v1).put (some d2) v2 = (a.put (some d2) v2).put (some d1) v1 := by
  unfold Act.put
  simp only
  congr 1
  exact Array.setIfInBounds_comm _ _ h

/-- An operation that gives one value in every world of the class. -/
theorem quiet_val {op : Oper} {a : Act} {K : Act → Prop} (v : Value) (hs : ∀ W, C W → (execOp a.eval op).run P W = .ok (.value v) W) (hk : K (a.put op.dst v)) : op.quiet P a C K :=
  ⟨v, fun W hW => by
    unfold Oper.quietAt
    rw [hs W hW]
    exact ⟨rfl, rfl⟩, hk⟩

/-- Two new variables in either order. -/
theorem tree_alloc2 {i j : Nat} {t : Tr} {a : Act} {w W : World} {d1 d2 : Nat} {y1 y2 t1 t2 : TypeId} {p1 p2 : String} {f1 f2 : Array Edge} {z1 z2 : Array Value}
    (h1 : ops[i]? = some { dst := some d1, op := .alloc t1, type := y1, pos := p1, after := f1, guard := none }) (h2 : ops[j]? = some { dst := some d2, op := .alloc t2, type := y2, pos := p2, after := f2, guard := none })
    (k1 : ZeroIs P t1 z1) (k2 : ZeroIs P t2 z2) (hz1 : 0 < z1.toList.length) (hz2 : 0 < z2.toList.length) (hd : d1 ≠ d2) (hC : ∀ V, Below w.heap.size w V → C V) (B0 : Below w.heap.size w W)
    (H : ∀ b1 b2 V, b1 ≠ b2 → W.heap.size ≤ b1 → W.heap.size ≤ b2 → Below W.heap.size W V → EBox V b1 z1.toList → EBox V b2 z2.toList → wpTr P ops Q C t ((a.put (some d1) (.pointer (some ⟨b1, 0, none⟩))).put (some d2) (.pointer (some ⟨b2, 0, none⟩))) V) :
    wpTr P ops Q C (.fork2 i (.fork1 j t) j (.fork1 i t)) a W := by
  have key : ∀ (t1 t2 : TypeId) (z1 z2 : Array Value), Below W.heap.size W ((W.alloc (.cells z1 t1)).alloc (.cells z2 t2)) := fun t1 t2 z1 z2 => bon (box_below _ _ _) (box_below _ _ _)
  refine tree_two h1 h2 ?_ ?_
  · refine wpList_allocL k1 ⟨hC _ (bon B0 (box_below _ _ _)), ?_⟩
    refine tree_one h2 (wpList_allocL k2 ⟨hC _ (bon B0 (key _ _ _ _)), ?_⟩)
    refine H _ _ _ ?_ (Nat.le_refl _) ?_ (key _ _ _ _) ((EBox.made _ _ _).on hz1 (box_below _ _ _)) (EBox.made _ _ _)
    · simp
    · simp
  · refine wpList_allocL k2 ⟨hC _ (bon B0 (box_below _ _ _)), ?_⟩
    refine tree_one h1 (wpList_allocL k1 ⟨hC _ (bon B0 (key _ _ _ _)), ?_⟩)
    rw [put_comm _ _ _ _ _ (Ne.symm hd)]
    refine H _ _ _ ?_ ?_ (Nat.le_refl _) (key _ _ _ _) (EBox.made _ _ _) ((EBox.made _ _ _).on hz2 (box_below _ _ _))
    · simp
    · simp

/-- Three. -/
theorem tree_alloc3 {i j k : Nat} {t : Tr} {a : Act} {w W : World} {d1 d2 d3 : Nat} {y1 y2 y3 t1 t2 t3 : TypeId} {p1 p2 p3 : String} {f1 f2 f3 : Array Edge} {z1 z2 z3 : Array Value}
    (h1 : ops[i]? = some { dst := some d1, op := .alloc t1, type := y1, pos := p1, after := f1, guard := none }) (h2 : ops[j]? = some { dst := some d2, op := .alloc t2, type := y2, pos := p2, after := f2, guard := none }) (h3 : ops[k]? = some { dst := some d3, op := .alloc t3, type := y3, pos := p3, after := f3, guard := none })
    (k1 : ZeroIs P t1 z1) (k2 : ZeroIs P t2 z2) (k3 : ZeroIs P t3 z3) (hz1 : 0 < z1.toList.length) (hz2 : 0 < z2.toList.length) (hz3 : 0 < z3.toList.length) (hd : d1 ≠ d2 ∧ d1 ≠ d3 ∧ d2 ≠ d3) (hC : ∀ V, Below w.heap.size w V → C V) (B0 : Below w.heap.size w W)
    (H : ∀ b1 b2 b3 V, (b1 ≠ b2 ∧ b1 ≠ b3 ∧ b2 ≠ b3) → W.heap.size ≤ b1 → W.heap.size ≤ b2 → W.heap.size ≤ b3 → Below W.heap.size W V → EBox V b1 z1.toList → EBox V b2 z2.toList → EBox V b3 z3.toList →
      wpTr P ops Q C t (((a.put (some d1) (.pointer (some ⟨b1, 0, none⟩))).put (some d2) (.pointer (some ⟨b2, 0, none⟩))).put (some d3) (.pointer (some ⟨b3, 0, none⟩))) V) :
    wpTr P ops Q C (.fork3 i (.fork2 j (.fork1 k t) k (.fork1 j t)) j (.fork2 i (.fork1 k t) k (.fork1 i t)) k (.fork2 i (.fork1 j t) j (.fork1 i t))) a W := by
  obtain ⟨n12, n13, n23⟩ := hd
  have hs : ∀ o, (W.alloc o).heap.size = W.heap.size + 1 := fun o => by simp
  refine tree_three h1 h2 h3 ?_ ?_ ?_
  · refine wpList_allocL k1 ⟨hC _ (bon B0 (box_below _ _ _)), ?_⟩
    refine tree_alloc2 h2 h3 k2 k3 hz2 hz3 n23 hC (bon B0 (box_below _ _ _)) fun b2 b3 V hne l2 l3 B X2 X3 => ?_
    rw [hs] at l2 l3
    exact H _ _ _ V ⟨by omega, by omega, hne⟩ (Nat.le_refl _) (by omega) (by omega) (bon (box_below _ _ _) B) ((EBox.made _ _ _).on hz1 B) X2 X3
  · refine wpList_allocL k2 ⟨hC _ (bon B0 (box_below _ _ _)), ?_⟩
    refine tree_alloc2 h1 h3 k1 k3 hz1 hz3 n13 hC (bon B0 (box_below _ _ _)) fun b1 b3 V hne l1 l3 B X1 X3 => ?_
    rw [hs] at l1 l3
    rw [put_comm a d2 d1 _ _ (Ne.symm n12)]
    exact H _ _ _ V ⟨by omega, hne, by omega⟩ (by omega) (Nat.le_refl _) (by omega) (bon (box_below _ _ _) B) X1 ((EBox.made _ _ _).on hz2 B) X3
  · refine wpList_allocL k3 ⟨hC _ (bon B0 (box_below _ _ _)), ?_⟩
    refine tree_alloc2 h1 h2 k1 k2 hz1 hz2 n12 hC (bon B0 (box_below _ _ _)) fun b1 b2 V hne l1 l2 B X1 X2 => ?_
    rw [hs] at l1 l2
    rw [put_comm a d3 d1 _ _ (Ne.symm n13), put_comm (a.put (some d1) _) d3 d2 _ _ (Ne.symm n23)]
    exact H _ _ _ V ⟨hne, by omega, by omega⟩ (by omega) (by omega) (Nat.le_refl _) (bon (box_below _ _ _) B) X1 X2 ((EBox.made _ _ _).on hz3 B)

end

end Go.Proofs.Ytcnemjkcihlpeaa
