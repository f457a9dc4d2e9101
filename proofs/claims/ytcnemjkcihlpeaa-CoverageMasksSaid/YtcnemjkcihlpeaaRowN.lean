/- Whole elements of N cells loaded and stored, as the operation is written out (tools/gen/rown.py). No function of a program is named here. -/
import Derived.Test.YtcnemjkcihlpeaaEBox
namespace Go.Proofs.Ytcnemjkcihlpeaa
set_option linter.unusedSimpArgs false
open Go.ChangeShapes Go.WideShapes Go.RowKit Go.Sort

/-- A part of a block's cells. -/
theorem range_cut {W : World} {b o : Nat} {vs : List Value} (h : W.rangeAt b o vs) (i k : Nat) : W.rangeAt b (o + i) ((vs.drop i).take k) := by
  intro j v hv
  rw [List.getElem?_take] at hv
  split at hv
  · rw [List.getElem?_drop] at hv
    rw [Nat.add_assoc]
    exact h (i + j) v hv
  · cases hv

/-- One cell written. -/
theorem EBox.upd {W : World} {b i : Nat} {vs : List Value} {v : Value} (K : EBox W b vs) (hi : i < vs.length) : EBox (W.setCell ⟨b, i, none⟩ v) b (vs.set i v) := by
  refine ⟨fun j u hu => ?_, fun j => by rw [World.frozen?_setCell]; exact K.2 j⟩
  rw [Nat.zero_add]
  by_cases h : i = j
  · subst h
    rw [List.getElem?_set_self hi] at hu
    injection hu with hu
    subst hu
    exact World.cell?_setCell_same _ _ _ (K.cell (List.getElem?_eq_getElem hi))
  · rw [List.getElem?_set_ne h] at hu
    rw [World.cell?_setCell_other _ _ _ _ (by intro e; injection e; omega)]
    exact K.cell hu

/-- A guarded operation whose guard holds. -/
theorem wpList_ungd {P : Program} {ops : Array Oper} {Q : Exit → Act → World → Prop} {a : Act} {W : World} {rest : List Oper} {dst : Option Tmp} {op : Op} {ty : TypeId} {pos : String} {after : Array Edge} {g : Nat × Bool}
    (hw : Region.wanted { dst := dst, op := op, type := ty, pos := pos, after := after, guard := some g } (yielded ops a.tmps) = true)
    (h : wpList P ops Q ({ dst := dst, op := op, type := ty, pos := pos, after := after, guard := none } :: rest) a W) :
    wpList P ops Q ({ dst := dst, op := op, type := ty, pos := pos, after := after, guard := some g } :: rest) a W := by
  unfold wpList at h ⊢
  rw [if_pos hw]
  rw [if_pos (by simp [Region.wanted])] at h
  exact h

section
variable {P : Program} {ops : Array Oper} {Q : Exit → Act → World → Prop} {rest : List Oper} {a : Act} {W : World}

theorem eload5L {dst : Option Tmp} {ty t : TypeId} {x : Operand} {pos : String} {after : Array Edge} {b o : Nat} {v0 v1 v2 v3 v4 : Value} (T : RowK P t 5) (k : W.rangeAt b o [v0, v1, v2, v3, v4]) (hx : a.eval x = .pointer (some ⟨b, o, none⟩))
    (H : wpList P ops Q rest (a.put dst (.agg #[v0, v1, v2, v3, v4])) W) : wpList P ops Q ({ dst := dst, op := .load t x, type := ty, pos := pos, after := after, guard := none } :: rest) a W :=
  eloadL (cs := [v0, v1, v2, v3, v4]) T k hx H

theorem estore5L {dst : Option Tmp} {ty t : TypeId} {x y : Operand} {pos : String} {after : Array Edge} {z0 z1 z2 z3 z4 v0 v1 v2 v3 v4 : Value} (T : RowK P t 5) (hx : a.eval x = .pointer (some ⟨W.heap.size, 0, none⟩)) (hy : a.eval y = .agg #[v0, v1, v2, v3, v4]) (h1 : (#[v0, v1, v2, v3, v4] : Array Value).all (·.oneCell') = true)
    (H : wpList P ops Q rest (a.put dst undef) (W.alloc (.cells #[v0, v1, v2, v3, v4] t))) : wpList P ops Q ({ dst := dst, op := .store t x y, type := ty, pos := pos, after := after, guard := none } :: rest) a (W.alloc (.cells #[z0, z1, z2, z3, z4] t)) :=
  estoreL (cs := #[v0, v1, v2, v3, v4]) T.size rfl h1 hx hy H

theorem eload6L {dst : Option Tmp} {ty t : TypeId} {x : Operand} {pos : String} {after : Array Edge} {b o : Nat} {v0 v1 v2 v3 v4 v5 : Value} (T : RowK P t 6) (k : W.rangeAt b o [v0, v1, v2, v3, v4, v5]) (hx : a.eval x = .pointer (some ⟨b, o, none⟩))
    (H : wpList P ops Q rest (a.put dst (.agg #[v0, v1, v2, v3, v4, v5])) W) : wpList P ops Q ({ dst := dst, op := .load t x, type := ty, pos := pos, after := after, guard := none } :: rest) a W :=
  eloadL (cs := [v0, v1, v2, v3, v4, v5]) T k hx H

theorem estore6L {dst : Option Tmp} {ty t : TypeId} {x y : Operand} {pos : String} {after : Array Edge} {z0 z1 z2 z3 z4 z5 v0 v1 v2 v3 v4 v5 : Value} (T : RowK P t 6) (hx : a.eval x = .pointer (some ⟨W.heap.size, 0, none⟩)) (hy : a.eval y = .agg #[v0, v1, v2, v3, v4, v5]) (h1 : (#[v0, v1, v2, v3, v4, v5] : Array Value).all (·.oneCell') = true)
    (H : wpList P ops Q rest (a.put dst undef) (W.alloc (.cells #[v0, v1, v2, v3, v4, v5] t))) : wpList P ops Q ({ dst := dst, op := .store t x y, type := ty, pos := pos, after := after, guard := none } :: rest) a (W.alloc (.cells #[z0, z1, z2, z3, z4, z5] t)) :=
  estoreL (cs := #[v0, v1, v2, v3, v4, v5]) T.size rfl h1 hx hy H

theorem eload7L {dst : Option Tmp} {ty t : TypeId} {x : Operand} {pos : String} {after : Array Edge} {b o : Nat} {v0 v1 v2 v3 v4 v5 v6 : Value} (T : RowK P t 7) (k : W.rangeAt b o [v0, v1, v2, v3, v4, v5, v6]) (hx : a.eval x = .pointer (some ⟨b, o, none⟩))
    (H : wpList P ops Q rest (a.put dst (.agg #[v0, v1, v2, v3, v4, v5, v6])) W) : wpList P ops Q ({ dst := dst, op := .load t x, type := ty, pos := pos, after := after, guard := none } :: rest) a W :=
  eloadL (cs := [v0, v1, v2, v3, v4, v5, v6]) T k hx H

theorem estore7L {dst : Option Tmp} {ty t : TypeId} {x y : Operand} {pos : String} {after : Array Edge} {z0 z1 z2 z3 z4 z5 z6 v0 v1 v2 v3 v4 v5 v6 : Value} (T : RowK P t 7) (hx : a.eval x = .pointer (some ⟨W.heap.size, 0, none⟩)) (hy : a.eval y = .agg #[v0, v1, v2, v3, v4, v5, v6]) (h1 : (#[v0, v1, v2, v3, v4, v5, v6] : Array Value).all (·.oneCell') = true)
    (H : wpList P ops Q rest (a.put dst undef) (W.alloc (.cells #[v0, v1, v2, v3, v4, v5, v6] t))) : wpList P ops Q ({ dst := dst, op := .store t x y, type := ty, pos := pos, after := after, guard := none } :: rest) a (W.alloc (.cells #[z0, z1, z2, z3, z4, z5, z6] t)) :=
  estoreL (cs := #[v0, v1, v2, v3, v4, v5, v6]) T.size rfl h1 hx hy H

theorem eload8L {dst : Option Tmp} {ty t : TypeId} {x : Operand} {pos : String} {after : Array Edge} {b o : Nat} {v0 v1 v2 v3 v4 v5 v6 v7 : Value} (T : RowK P t 8) (k : W.rangeAt b o [v0, v1, v2, v3, v4, v5, v6, v7]) (hx : a.eval x = .pointer (some ⟨b, o, none⟩))
    (H : wpList P ops Q rest (a.put dst (.agg #[v0, v1, v2, v3, v4, v5, v6, v7])) W) : wpList P ops Q ({ dst := dst, op := .load t x, type := ty, pos := pos, after := after, guard := none } :: rest) a W :=
  eloadL (cs := [v0, v1, v2, v3, v4, v5, v6, v7]) T k hx H

theorem estore8L {dst : Option Tmp} {ty t : TypeId} {x y : Operand} {pos : String} {after : Array Edge} {z0 z1 z2 z3 z4 z5 z6 z7 v0 v1 v2 v3 v4 v5 v6 v7 : Value} (T : RowK P t 8) (hx : a.eval x = .pointer (some ⟨W.heap.size, 0, none⟩)) (hy : a.eval y = .agg #[v0, v1, v2, v3, v4, v5, v6, v7]) (h1 : (#[v0, v1, v2, v3, v4, v5, v6, v7] : Array Value).all (·.oneCell') = true)
    (H : wpList P ops Q rest (a.put dst undef) (W.alloc (.cells #[v0, v1, v2, v3, v4, v5, v6, v7] t))) : wpList P ops Q ({ dst := dst, op := .store t x y, type := ty, pos := pos, after := after, guard := none } :: rest) a (W.alloc (.cells #[z0, z1, z2, z3, z4, z5, z6, z7] t)) :=
  estoreL (cs := #[v0, v1, v2, v3, v4, v5, v6, v7]) T.size rfl h1 hx hy H

theorem eload9L {dst : Option Tmp} {ty t : TypeId} {x : Operand} {pos : String} {after : Array Edge} {b o : Nat} {v0 v1 v2 v3 v4 v5 v6 v7 v8 : Value} (T : RowK P t 9) (k : W.rangeAt b o [v0, v1, v2, v3, v4, v5, v6, v7, v8]) (hx : a.eval x = .pointer (some ⟨b, o, none⟩))
    (H : wpList P ops Q rest (a.put dst (.agg #[v0, v1, v2, v3, v4, v5, v6, v7, v8])) W) : wpList P ops Q ({ dst := dst, op := .load t x, type := ty, pos := pos, after := after, guard := none } :: rest) a W :=
  eloadL (cs := [v0, v1, v2, v3, v4, v5, v6, v7, v8]) T k hx H

theorem estore9L {dst : Option Tmp} {ty t : TypeId} {x y : Operand} {pos : String} {after : Array Edge} {z0 z1 z2 z3 z4 z5 z6 z7 z8 v0 v1 v2 v3 v4 v5 v6 v7 v8 : Value} (T : RowK P t 9) (hx : a.eval x = .pointer (some ⟨W.heap.size, 0, none⟩)) (hy : a.eval y = .agg #[v0, v1, v2, v3, v4, v5, v6, v7, v8]) (h1 : (#[v0, v1, v2, v3, v4, v5, v6, v7, v8] : Array Value).all (·.oneCell') = true)
    (H : wpList P ops Q rest (a.put dst undef) (W.alloc (.cells #[v0, v1, v2, v3, v4, v5, v6, v7, v8] t))) : wpList P ops Q ({ dst := dst, op := .store t x y, type := ty, pos := pos, after := after, guard := none } :: rest) a (W.alloc (.cells #[z0, z1, z2, z3, z4, z5, z6, z7, z8] t)) :=
  estoreL (cs := #[v0, v1, v2, v3, v4, v5, v6, v7, v8]) T.size rfl h1 hx hy H

theorem eload10L {dst : Option Tmp} {ty t : TypeId} {x : Operand} {pos : String} {after : Array Edge} {b o : Nat} {v0 v1 v2 v3 v4 v5 v6 v7 v8 v9 : Value} (T : RowK P t 10) (k : W.rangeAt b o [v0, v1, v2, v3, v4, v5, v6, v7, v8, v9]) (hx : a.eval x = .pointer (some ⟨b, o, none⟩))
    (H : wpList P ops Q rest (a.put dst (.agg #[v0, v1, v2, v3, v4, v5, v6, v7, v8, v9])) W) : wpList P ops Q ({ dst := dst, op := .load t x, type := ty, pos := pos, after := after, guard := none } :: rest) a W :=
  eloadL (cs := [v0, v1, v2, v3, v4, v5, v6, v7, v8, v9]) T k hx H

theorem estore10L {dst : Option Tmp} {ty t : TypeId} {x y : Operand} {pos : String} {after : Array Edge} {z0 z1 z2 z3 z4 z5 z6 z7 z8 z9 v0 v1 v2 v3 v4 v5 v6 v7 v8 v9 : Value} (T : RowK P t 10) (hx : a.eval x = .pointer (some ⟨W.heap.size, 0, none⟩)) (hy : a.eval y = .agg #[v0, v1, v2, v3, v4, v5, v6, v7, v8, v9]) (h1 : (#[v0, v1, v2, v3, v4, v5, v6, v7, v8, v9] : Array Value).all (·.oneCell') = true)
    (H : wpList P ops Q rest (a.put dst undef) (W.alloc (.cells #[v0, v1, v2, v3, v4, v5, v6, v7, v8, v9] t))) : wpList P ops Q ({ dst := dst, op := .store t x y, type := ty, pos := pos, after := after, guard := none } :: rest) a (W.alloc (.cells #[z0, z1, z2, z3, z4, z5, z6, z7, z8, z9] t)) :=
  estoreL (cs := #[v0, v1, v2, v3, v4, v5, v6, v7, v8, v9]) T.size rfl h1 hx hy H

theorem eload12L {dst : Option Tmp} {ty t : TypeId} {x : Operand} {pos : String} {after : Array Edge} {b o : Nat} {v0 v1 v2 v3 v4 v5 v6 v7 v8 v9 v10 v11 : Value} (T : RowK P t 12) (k : W.rangeAt b o [v0, v1, v2, v3, v4, v5, v6, v7, v8, v9, v10, v11]) (hx : a.eval x = .pointer (some ⟨b, o, none⟩))
    (H : wpList P ops Q rest (a.put dst (.agg #[v0, v1, v2, v3, v4, v5, v6, v7, v8, v9, v10, v11])) W) : wpList P ops Q ({ dst := dst, op := .load t x, type := ty, pos := pos, after := after, guard := none } :: rest) a W :=
  eloadL (cs := [v0, v1, v2, v3, v4, v5, v6, v7, v8, v9, v10, v11]) T k hx H

theorem estore12L {dst : Option Tmp} {ty t : TypeId} {x y : Operand} {pos : String} {after : Array Edge} {z0 z1 z2 z3 z4 z5 z6 z7 z8 z9 z10 z11 v0 v1 v2 v3 v4 v5 v6 v7 v8 v9 v10 v11 : Value} (T : RowK P t 12) (hx : a.eval x = .pointer (some ⟨W.heap.size, 0, none⟩)) (hy : a.eval y = .agg #[v0, v1, v2, v3, v4, v5, v6, v7, v8, v9, v10, v11]) (h1 : (#[v0, v1, v2, v3, v4, v5, v6, v7, v8, v9, v10, v11] : Array Value).all (·.oneCell') = true)
    (H : wpList P ops Q rest (a.put dst undef) (W.alloc (.cells #[v0, v1, v2, v3, v4, v5, v6, v7, v8, v9, v10, v11] t))) : wpList P ops Q ({ dst := dst, op := .store t x y, type := ty, pos := pos, after := after, guard := none } :: rest) a (W.alloc (.cells #[z0, z1, z2, z3, z4, z5, z6, z7, z8, z9, z10, z11] t)) :=
  estoreL (cs := #[v0, v1, v2, v3, v4, v5, v6, v7, v8, v9, v10, v11]) T.size rfl h1 hx hy H

theorem eload15L {dst : Option Tmp} {ty t : TypeId} {x : Operand} {pos : String} {after : Array Edge} {b o : Nat} {v0 v1 v2 v3 v4 v5 v6 v7 v8 v9 v10 v11 v12 v13 v14 : Value} (T : RowK P t 15) (k : W.rangeAt b o [v0, v1, v2, v3, v4, v5, v6, v7, v8, v9, v10, v11, v12, v13, v14]) (hx : a.eval x = .pointer (some ⟨b, o, none⟩))
    (H : wpList P ops Q rest (a.put dst (.agg #[v0, v1, v2, v3, v4, v5, v6, v7, v8, v9, v10, v11, v12, v13, v14])) W) : wpList P ops Q ({ dst := dst, op := .load t x, type := ty, pos := pos, after := after, guard := none } :: rest) a W :=
  eloadL (cs := [v0, v1, v2, v3, v4, v5, v6, v7, v8, v9, v10, v11, v12, v13, v14]) T k hx H

theorem estore15L {dst : Option Tmp} {ty t : TypeId} {x y : Operand} {pos : String} {after : Array Edge} {z0 z1 z2 z3 z4 z5 z6 z7 z8 z9 z10 z11 z12 z13 z14 v0 v1 v2 v3 v4 v5 v6 v7 v8 v9 v10 v11 v12 v13 v14 : Value} (T : RowK P t 15) (hx : a.eval x = .pointer (some ⟨W.heap.size, 0, none⟩)) (hy : a.eval y = .agg #[v0, v1, v2, v3, v4, v5, v6, v7, v8, v9, v10, v11, v12, v13, v14]) (h1 : (#[v0, v1, v2, v3, v4, v5, v6, v7, v8, v9, v10, v11, v12, v13, v14] : Array Value).all (·.oneCell') = true)
    (H : wpList P ops Q rest (a.put dst undef) (W.alloc (.cells #[v0, v1, v2, v3, v4, v5, v6, v7, v8, v9, v10, v11, v12, v13, v14] t))) : wpList P ops Q ({ dst := dst, op := .store t x y, type := ty, pos := pos, after := after, guard := none } :: rest) a (W.alloc (.cells #[z0, z1, z2, z3, z4, z5, z6, z7, z8, z9, z10, z11, z12, z13, z14] t)) :=
  estoreL (cs := #[v0, v1, v2, v3, v4, v5, v6, v7, v8, v9, v10, v11, v12, v13, v14]) T.size rfl h1 hx hy H

theorem eload16L {dst : Option Tmp} {ty t : TypeId} {x : Operand} {pos : String} {after : Array Edge} {b o : Nat} {v0 v1 v2 v3 v4 v5 v6 v7 v8 v9 v10 v11 v12 v13 v14 v15 : Value} (T : RowK P t 16) (k : W.rangeAt b o [v0, v1, v2, v3, v4, v5, v6, v7, v8, v9, v10, v11, v12, v13, v14, v15]) (hx : a.eval x = .pointer (some ⟨b, o, none⟩))
    (H : wpList P ops Q rest (a.put dst (.agg #[v0, v1, v2, v3, v4, v5, v6, v7, v8, v9, v10, v11, v12, v13, v14, v15])) W) : wpList P ops Q ({ dst := dst, op := .load t x, type := ty, pos := pos, after := after, guard := none } :: rest) a W :=
  eloadL (cs := [v0, v1, v2, v3, v4, v5, v6, v7, v8, v9, v10, v11, v12, v13, v14, v15]) T k hx H

theorem estore16L {dst : Option Tmp} {ty t : TypeId} {x y : Operand} {pos : String} {after : Array Edge} {z0 z1 z2 z3 z4 z5 z6 z7 z8 z9 z10 z11 z12 z13 z14 z15 v0 v1 v2 v3 v4 v5 v6 v7 v8 v9 v10 v11 v12 v13 v14 v15 : Value} (T : RowK P t 16) (hx : a.eval x = .pointer (some ⟨W.heap.size, 0, none⟩)) (hy : a.eval y = .agg #[v0, v1, v2, v3, v4, v5, v6, v7, v8, v9, v10, v11, v12, v13, v14, v15]) (h1 : (#[v0, v1, v2, v3, v4, v5, v6, v7, v8, v9, v10, v11, v12, v13, v14, v15] : Array Value).all (·.oneCell') = true)
    (H : wpList P ops Q rest (a.put dst undef) (W.alloc (.cells #[v0, v1, v2, v3, v4, v5, v6, v7, v8, v9, v10, v11, v12, v13, v14, v15] t))) : wpList P ops Q ({ dst := dst, op := .store t x y, type := ty, pos := pos, after := after, guard := none } :: rest) a (W.alloc (.cells #[z0, z1, z2, z3, z4, z5, z6, z7, z8, z9, z10, z11, z12, z13, z14, z15] t)) :=
  estoreL (cs := #[v0, v1, v2, v3, v4, v5, v6, v7, v8, v9, v10, v11, v12, v13, v14, v15]) T.size rfl h1 hx hy H

theorem eload17L {dst : Option Tmp} {ty t : TypeId} {x : Operand} {pos : String} {after : Array Edge} {b o : Nat} {v0 v1 v2 v3 v4 v5 v6 v7 v8 v9 v10 v11 v12 v13 v14 v15 v16 : Value} (T : RowK P t 17) (k : W.rangeAt b o [v0, v1, v2, v3, v4, v5, v6, v7, v8, v9, v10, v11, v12, v13, v14, v15, v16]) (hx : a.eval x = .pointer (some ⟨b, o, none⟩))
    (H : wpList P ops Q rest (a.put dst (.agg #[v0, v1, v2, v3, v4, v5, v6, v7, v8, v9, v10, v11, v12, v13, v14, v15, v16])) W) : wpList P ops Q ({ dst := dst, op := .load t x, type := ty, pos := pos, after := after, guard := none } :: rest) a W :=
  eloadL (cs := [v0, v1, v2, v3, v4, v5, v6, v7, v8, v9, v10, v11, v12, v13, v14, v15, v16]) T k hx H

theorem estore17L {dst : Option Tmp} {ty t : TypeId} {x y : Operand} {pos : String} {after : Array Edge} {z0 z1 z2 z3 z4 z5 z6 z7 z8 z9 z10 z11 z12 z13 z14 z15 z16 v0 v1 v2 v3 v4 v5 v6 v7 v8 v9 v10 v11 v12 v13 v14 v15 v16 : Value} (T : RowK P t 17) (hx : a.eval x = .pointer (some ⟨W.heap.size, 0, none⟩)) (hy : a.eval y = .agg #[v0, v1, v2, v3, v4, v5, v6, v7, v8, v9, v10, v11, v12, v13, v14, v15, v16]) (h1 : (#[v0, v1, v2, v3, v4, v5, v6, v7, v8, v9, v10, v11, v12, v13, v14, v15, v16] : Array Value).all (·.oneCell') = true)
    (H : wpList P ops Q rest (a.put dst undef) (W.alloc (.cells #[v0, v1, v2, v3, v4, v5, v6, v7, v8, v9, v10, v11, v12, v13, v14, v15, v16] t))) : wpList P ops Q ({ dst := dst, op := .store t x y, type := ty, pos := pos, after := after, guard := none } :: rest) a (W.alloc (.cells #[z0, z1, z2, z3, z4, z5, z6, z7, z8, z9, z10, z11, z12, z13, z14, z15, z16] t)) :=
  estoreL (cs := #[v0, v1, v2, v3, v4, v5, v6, v7, v8, v9, v10, v11, v12, v13, v14, v15, v16]) T.size rfl h1 hx hy H

theorem eload18L {dst : Option Tmp} {ty t : TypeId} {x : Operand} {pos : String} {after : Array Edge} {b o : Nat} {v0 v1 v2 v3 v4 v5 v6 v7 v8 v9 v10 v11 v12 v13 v14 v15 v16 v17 : Value} (T : RowK P t 18) (k : W.rangeAt b o [v0, v1, v2, v3, v4, v5, v6, v7, v8, v9, v10, v11, v12, v13, v14, v15, v16, v17]) (hx : a.eval x = .pointer (some ⟨b, o, none⟩))
    (H : wpList P ops Q rest (a.put dst (.agg #[v0, v1, v2, v3, v4, v5, v6, v7, v8, v9, v10, v11, v12, v13, v14, v15, v16, v17])) W) : wpList P ops Q ({ dst := dst, op := .load t x, type := ty, pos := pos, after := after, guard := none } :: rest) a W :=
  eloadL (cs := [v0, v1, v2, v3, v4, v5, v6, v7, v8, v9, v10, v11, v12, v13, v14, v15, v16, v17]) T k hx H

theorem estore18L {dst : Option Tmp} {ty t : TypeId} {x y : Operand} {pos : String} {after : Array Edge} {z0 z1 z2 z3 z4 z5 z6 z7 z8 z9 z10 z11 z12 z13 z14 z15 z16 z17 v0 v1 v2 v3 v4 v5 v6 v7 v8 v9 v10 v11 v12 v13 v14 v15 v16 v17 : Value} (T : RowK P t 18) (hx : a.eval x = .pointer (some ⟨W.heap.size, 0, none⟩)) (hy : a.eval y = .agg #[v0, v1, v2, v3, v4, v5, v6, v7, v8, v9, v10, v11, v12, v13, v14, v15, v16, v17]) (h1 : (#[v0, v1, v2, v3, v4, v5, v6, v7, v8, v9, v10, v11, v12, v13, v14, v15, v16, v17] : Array Value).all (·.oneCell') = true)
    (H : wpList P ops Q rest (a.put dst undef) (W.alloc (.cells #[v0, v1, v2, v3, v4, v5, v6, v7, v8, v9, v10, v11, v12, v13, v14, v15, v16, v17] t))) : wpList P ops Q ({ dst := dst, op := .store t x y, type := ty, pos := pos, after := after, guard := none } :: rest) a (W.alloc (.cells #[z0, z1, z2, z3, z4, z5, z6, z7, z8, z9, z10, z11, z12, z13, z14, z15, z16, z17] t)) :=
  estoreL (cs := #[v0, v1, v2, v3, v4, v5, v6, v7, v8, v9, v10, v11, v12, v13, v14, v15, v16, v17]) T.size rfl h1 hx hy H

end

end Go.Proofs.Ytcnemjkcihlpeaa
