/- A region that draws its order, whose reads are of cells that nothing in the region writes: the tree of walks (XTree) over a condition of one's own on the world. No program is named here. -/
import Derived.Test.YtmmhnhjipbecdaaTree
namespace Go.Proofs.Ytmmhnhjipbecdaa
set_option linter.unusedSimpArgs false
open Go.RowKit Go.Sort

section
variable {P : Program} {ops : Array Oper} {C : World → Prop}

/-- The region's law: 't' the tree of the walks, C what is asked of the world all the way. -/
theorem wp_region_treeC {id : Nat} {Q : Exit → Act → World → Prop} {a : Act} {w : World} {l : List Oper} (C : World → Prop) (t : Tr) (hm : P.follows .mixedOrders = true)
    (hB : (Region.noSelect l.toArray && treeB .any l.toArray l.length t (Array.replicate l.length false)) = true) (hC : ∀ W, Below w.heap.size w W → C W)
    (h : ∀ W, Below w.heap.size w W → wpTr P l.toArray (NoPanic Q) C t a W) : (Code.region id l.toArray true).wp P Q a w := by
  simp only [Bool.and_eq_true] at hB
  have hb : Below w.heap.size w { w with drawn := w.drawn + 1 } := ⟨rfl, rfl, rfl, Nat.le_refl _, fun _ _ => rfl⟩
  refine wp_region_noPanic (wp_region_any hm (wpAny_of_held (S := C) _ _ _ _ ?_))
  have := wpAnyH_of_tree (P := P) (md := .any) (Q := NoPanic Q) (C := C) hB.1 (fun c a w h => h) l.length t _ a { w with drawn := w.drawn + 1 } hB.2 (hC _ hb) (h _ hb)
  simpa using this

/-- A type whose values lie in n cells. -/
structure RowType (P : Program) (t : TypeId) (n : Nat) : Prop where
  agg : ∀ W, (isAgg t).run P W = .ok true W
  size : (P.info? t).map (·.size) = some n

/-- Four integers lie in block b. -/
def VecAt (W : World) (b : Nat) (x0 x1 x2 x3 : Int) : Prop :=
  W.cell? ⟨b, 0, none⟩ = some (.int .i64 x0) ∧ W.cell? ⟨b, 1, none⟩ = some (.int .i64 x1) ∧ W.cell? ⟨b, 2, none⟩ = some (.int .i64 x2) ∧ W.cell? ⟨b, 3, none⟩ = some (.int .i64 x3)

theorem VecAt.on {W V : World} {b : Nat} {x0 x1 x2 x3 : Int} (h : VecAt W b x0 x1 x2 x3) (B : Below W.heap.size W V) : VecAt V b x0 x1 x2 x3 :=
  ⟨cell_below B h.1, cell_below B h.2.1, cell_below B h.2.2.1, cell_below B h.2.2.2⟩
/-- .. in a block below B. -/
theorem VecAt.below {W V : World} {b B : Nat} {x0 x1 x2 x3 : Int} (h : VecAt W b x0 x1 x2 x3) (hb : b < B) (k : Below B W V) : VecAt V b x0 x1 x2 x3 :=
  ⟨(k.cell hb).trans h.1, (k.cell hb).trans h.2.1, (k.cell hb).trans h.2.2.1, (k.cell hb).trans h.2.2.2⟩

theorem vec_load {W : World} {b : Nat} {t : TypeId} {x0 x1 x2 x3 : Int} (T : RowType P t 4) (c : VecAt W b x0 x1 x2 x3) :
    (loadVar t ⟨b, 0, none⟩).run P W = .ok (.agg #[.int .i64 x0, .int .i64 x1, .int .i64 x2, .int .i64 x3]) W := by
  have h := run_loadCellsFrom (P := P) W ⟨b, 0, none⟩ (fun i => .int .i64 (if i = 0 then x0 else if i = 1 then x1 else if i = 2 then x2 else x3)) 4 0 #[] (fun j hj => by
    have hadd : (⟨b, 0, none⟩ : Addr).add (0 + j) = ⟨b, j, none⟩ := by unfold Addr.add; split <;> simp_all
    rw [hadd, Nat.zero_add]
    match j, hj with
    | 0, _ => exact c.1
    | 1, _ => exact c.2.1
    | 2, _ => exact c.2.2.1
    | 3, _ => exact c.2.2.2)
  have h' : (loadCellsFrom ⟨b, 0, none⟩ 0 4 #[]).run P W = .ok #[.int .i64 x0, .int .i64 x1, .int .i64 x2, .int .i64 x3] W := h
  have hi := T.size
  cases hq : P.info? t with
  | none => simp [hq] at hi
  | some i =>
    have hz : i.size = 4 := by simpa [hq] using hi
    simp [loadVar, Sem.run_bind, T.agg W, sizeOf, typeInfo, hq, hz, loadCells, h', Result.andThen]

/-- A whole vector loaded, in a region that draws its order. -/
theorem quiet_vload {K : Act → Prop} {o : Oper} {a : Act} {b : Nat} {x0 x1 x2 x3 : Int} (t : TypeId) (x : Operand) (ho : o.op = .load t x) (T : RowType P t 4)
    (c : ∀ W, C W → VecAt W b x0 x1 x2 x3) (hx : a.eval x = .pointer (some ⟨b, 0, none⟩)) (hk : K (a.put o.dst (.agg #[.int .i64 x0, .int .i64 x1, .int .i64 x2, .int .i64 x3]))) : o.quiet P a C K :=
  ⟨_, fun W hW => by
    unfold Oper.quietAt execOp
    simp only [ho, hx, Instr.loadAt, Instr.sureAddr, Sem.run_bind, Sem.run_pure, Result.andThen_ok, vec_load T (c W hW)]
    exact ⟨rfl, rfl⟩, hk⟩

/-- A value moved, assigned. -/
theorem quiet_move {K : Act → Prop} {o : Oper} {a : Act} (x : Operand) (ho : o.op = .move x) (hk : K (a.put o.dst (a.eval x))) : o.quiet P a C K :=
  ⟨_, fun W hW => by
    unfold Oper.quietAt execOp
    simp only [ho, Sem.run_pure]
    exact ⟨rfl, rfl⟩, hk⟩

theorem quiet_assign {K : Act → Prop} {o : Oper} {a : Act} (x : Operand) (ho : o.op = .assign x) (hk : K (a.put o.dst (a.eval x))) : o.quiet P a C K :=
  ⟨_, fun W hW => by
    unfold Oper.quietAt execOp
    simp only [ho, Sem.run_pure]
    exact ⟨rfl, rfl⟩, hk⟩

/-- A block of four integers that may be written. -/
def VBox (W : World) (b : Nat) (x0 x1 x2 x3 : Int) : Prop := VecAt W b x0 x1 x2 x3 ∧ ∀ i, W.frozen? ⟨b, i, none⟩ = false

theorem VBox.lt {W : World} {b : Nat} {x0 x1 x2 x3 : Int} (h : VBox W b x0 x1 x2 x3) : b < W.heap.size := block_lt_of_cell h.1.1
theorem VBox.below {W V : World} {b B : Nat} {x0 x1 x2 x3 : Int} (h : VBox W b x0 x1 x2 x3) (hb : b < B) (k : Below B W V) : VBox V b x0 x1 x2 x3 :=
  ⟨h.1.below hb k, fun i => (k.frozen (p := ⟨b, i, none⟩) hb).trans (h.2 i)⟩
theorem VBox.on {W V : World} {b : Nat} {x0 x1 x2 x3 : Int} (h : VBox W b x0 x1 x2 x3) (B : Below W.heap.size W V) : VBox V b x0 x1 x2 x3 := h.below h.lt B
theorem VBox.made (W : World) (x0 x1 x2 x3 : Int) (t : TypeId) : VBox (W.alloc (.cells #[.int .i64 x0, .int .i64 x1, .int .i64 x2, .int .i64 x3] t)) W.heap.size x0 x1 x2 x3 :=
  ⟨⟨by simp, by simp, by simp, by simp⟩, fun i => by rw [frozen?_alloc_cells]; unfold World.frozen?; simp⟩

/-- A vector stored into such a block: the others stay. -/
theorem wpList_vset {Q : Exit → Act → World → Prop} {rest : List Oper} {o : Oper} {a : Act} {W : World} {b : Nat} {u0 u1 u2 u3 : Int} (hg : o.guard = none) (t : TypeId) (x y : Operand) (ho : o.op = .store t x y) (v0 v1 v2 v3 : Int)
    (hx : a.eval x = .pointer (some ⟨b, 0, none⟩)) (hy : a.eval y = .agg #[.int .i64 v0, .int .i64 v1, .int .i64 v2, .int .i64 v3]) (V : VBox W b u0 u1 u2 u3) (T : (P.info? t).map (·.size) = some 4)
    (h : ∀ W', Below b W W' → VBox W' b v0 v1 v2 v3 → (∀ c y0 y1 y2 y3, c ≠ b → VBox W c y0 y1 y2 y3 → VBox W' c y0 y1 y2 y3) → (∀ a : Addr, a.block ≠ b → W'.cell? a = W.cell? a) → wpList P ops Q rest (a.put o.dst undef) W') : wpList P ops Q (o :: rest) a W :=
  wpList_vstore hg t x y ho v0 v1 v2 v3 hx hy V.1.1 V.1.2.1 V.1.2.2.1 V.1.2.2.2 V.2 (Below.refl b W) (Nat.le_refl b) T fun W' B e0 e1 e2 e3 hc hf =>
    h W' B ⟨⟨e0, e1, e2, e3⟩, fun i => (hf _).trans (V.2 i)⟩ (fun c _ _ _ _ hne k =>
      ⟨⟨(hc ⟨c, 0, none⟩ hne).trans k.1.1, (hc ⟨c, 1, none⟩ hne).trans k.1.2.1, (hc ⟨c, 2, none⟩ hne).trans k.1.2.2.1, (hc ⟨c, 3, none⟩ hne).trans k.1.2.2.2⟩, fun i => (hf _).trans (k.2 i)⟩) hc

end
end Go.Proofs.Ytmmhnhjipbecdaa
