/- Matrices of sixteen integers in memory: no program is named here. -/
import Derived.Test.YtlchecnencbamaaBelow
import Derived.Laws.Cells
import Derived.Laws.IdiomCopy
import Derived.ChangeKeysEq
import Derived.Deep.QuietTactic
import Derived.Deep.WholeRow
namespace Go.Proofs.Ytlchecnencbamaa
open Go.RowKit Go.Sort

/-- The cells of a matrix. -/
def mats (m : Nat → Int) : Array Value := #[.int .i64 (m 0), .int .i64 (m 1), .int .i64 (m 2), .int .i64 (m 3), .int .i64 (m 4), .int .i64 (m 5), .int .i64 (m 6), .int .i64 (m 7), .int .i64 (m 8), .int .i64 (m 9), .int .i64 (m 10), .int .i64 (m 11), .int .i64 (m 12), .int .i64 (m 13), .int .i64 (m 14), .int .i64 (m 15)]

theorem mats_size (m : Nat → Int) : (mats m).size = 16 := rfl

/-- A type of sixteen integers in a row. -/
structure MatType (P : Program) (t : TypeId) : Prop where
  row : ∃ e, P.underlying t = some (.array 16 e)
  size : (P.info? t).map (·.size) = some 16

theorem mget (m : Nat → Int) : ∀ i, i < 16 → ((mats m))[i]? = some (.int .i64 (m i)) := by
  intro i hi
  match i, hi with
  | 0, _ => rfl
  | 1, _ => rfl
  | 2, _ => rfl
  | 3, _ => rfl
  | 4, _ => rfl
  | 5, _ => rfl
  | 6, _ => rfl
  | 7, _ => rfl
  | 8, _ => rfl
  | 9, _ => rfl
  | 10, _ => rfl
  | 11, _ => rfl
  | 12, _ => rfl
  | 13, _ => rfl
  | 14, _ => rfl
  | 15, _ => rfl
  | n + 16, h => omega

theorem mat_below {W W1 : World} {b : Nat} {m : Nat → Int} (h : Below W.heap.size W W1) (c : (∀ i, i < 16 → W.cell? ⟨b, i, none⟩ = some (.int .i64 (m i)))) : (∀ i, i < 16 → W1.cell? ⟨b, i, none⟩ = some (.int .i64 (m i))) := fun i hi => cell_below h (c i hi)

theorem matz_below {W W1 : World} {b : Nat} {m : Nat → Int} (h : Below W.heap.size W W1) (c : (∀ i, i < 16 → W.cell? ⟨b, i, none⟩ = some (.int .i64 (m i)))) (f : (∀ i, i < 16 → W.frozen? ⟨b, i, none⟩ = false)) : (∀ i, i < 16 → W1.frozen? ⟨b, i, none⟩ = false) := fun i hi => frozen_below h (c i hi) (f i hi)

theorem mat_regrown {W : World} {b : Nat} {m : Nat → Int} (c : (∀ i, i < 16 → W.cell? ⟨b, i, none⟩ = some (.int .i64 (m i)))) (d : Nat) (os : Array Obj) : (∀ i, i < 16 → (grow (redrawn W d) os).cell? ⟨b, i, none⟩ = some (.int .i64 (m i))) := fun i hi => cell_regrown (c i hi) d os

theorem mat_class {W : World} {b : Nat} {m : Nat → Int} (c : (∀ i, i < 16 → W.cell? ⟨b, i, none⟩ = some (.int .i64 (m i)))) {V : World} (h : ∃ p : Regrown, V = grow (redrawn W p.d) p.os) : (∀ i, i < 16 → V.cell? ⟨b, i, none⟩ = some (.int .i64 (m i))) := by
  obtain ⟨p, rfl⟩ := h; exact mat_regrown c p.d p.os

theorem mat_load {P : Program} {W : World} {b : Nat} {t : TypeId} {m : Nat → Int} (T : MatType P t) (c : (∀ i, i < 16 → W.cell? ⟨b, i, none⟩ = some (.int .i64 (m i)))) : (loadVar t ⟨b, 0, none⟩).run P W = .ok (.agg (mats m)) W := by
  have h := run_loadCellsFrom (P := P) W ⟨b, 0, none⟩ (fun i => .int .i64 (m i)) 16 0 #[] (fun j hj => by
    have hadd : (⟨b, 0, none⟩ : Addr).add (0 + j) = ⟨b, j, none⟩ := by unfold Addr.add; split <;> simp_all
    rw [hadd, Nat.zero_add]; exact c j hj)
  have h' : (loadCellsFrom ⟨b, 0, none⟩ 0 16 #[]).run P W = .ok (mats m) W := h
  obtain ⟨e, hu⟩ := T.row
  have hi := T.size
  have ha : (isAgg t).run P W = .ok true W := by unfold isAgg; rw [Sem.run_bind, run_underlying hu W]; simp
  cases hq : P.info? t with
  | none => simp [hq] at hi
  | some i =>
    have hz : i.size = 16 := by simpa [hq] using hi
    simp [loadVar, Sem.run_bind, ha, sizeOf, typeInfo, hq, hz, loadCells, h', Result.andThen]

/-- The operation that loads a whole matrix: in a list of operations; in a region that draws its order. -/
theorem wpList_mload {P : Program} {ops : Array Oper} {rest : List Oper} {o : Oper} {a : Act} {W : World} {Q : Exit → Act → World → Prop} {b : Nat} {m : Nat → Int} (hg : o.guard = none) (t : TypeId) (x : Operand) (ho : o.op = .load t x) (T : MatType P t)
    (c : (∀ i, i < 16 → W.cell? ⟨b, i, none⟩ = some (.int .i64 (m i)))) (hx : a.eval x = .pointer (some ⟨b, 0, none⟩)) (h : wpList P ops Q rest (a.put o.dst (.agg (mats m))) W) : wpList P ops Q (o :: rest) a W :=
  wpList_plain hg fun _ hK => by
    unfold Oper.wp execOp
    simp only [ho, hx, Instr.loadAt, Instr.sureAddr, Sem.run_bind, Sem.run_pure, Result.andThen_ok, mat_load T c]
    exact hK _ _ h

theorem quiet_mload {P : Program} {C : World → Prop} {K : Act → Prop} {o : Oper} {a : Act} {b : Nat} {m : Nat → Int} (t : TypeId) (x : Operand) (ho : o.op = .load t x) (T : MatType P t)
    (c : ∀ W, C W → (∀ i, i < 16 → W.cell? ⟨b, i, none⟩ = some (.int .i64 (m i)))) (hx : a.eval x = .pointer (some ⟨b, 0, none⟩)) (hk : K (a.put o.dst (.agg (mats m)))) : o.quiet P a C K :=
  ⟨_, fun W hW => by
    unfold Oper.quietAt execOp
    simp only [ho, hx, Instr.loadAt, Instr.sureAddr, Sem.run_bind, Sem.run_pure, Result.andThen_ok, mat_load T (c W hW)]
    exact ⟨rfl, rfl⟩, hk⟩

/-- A matrix as a call's result. -/
theorem results_mat {P : Program} {fn : Func} {p : Tmp} {t : TypeId} {W : World} {b : Nat} {m : Nat → Int} (h : fn.results = #[.cell p t]) (T : MatType P t) (c : (∀ i, i < 16 → W.cell? ⟨b, i, none⟩ = some (.int .i64 (m i)))) (tmps : Array Value) (hp : tmps.getD p undef = .pointer (some ⟨b, 0, none⟩)) :
    (results fn tmps).run P W = .ok (.agg (mats m)) W := by
  have hp' : tmps[p]?.getD undef = .pointer (some ⟨b, 0, none⟩) := by simpa using hp
  simp [results, h, hp', asAddr, mat_load T c]

theorem mat_box (w : World) (m : Nat → Int) (t : TypeId) : (∀ i, i < 16 → (w.alloc (.cells (mats m) t)).cell? ⟨w.heap.size, i, none⟩ = some (.int .i64 (m i))) := fun i hi => box_cell w _ t i _ (mget m i hi)

theorem box_frozen (w : World) (cs : Array Value) (t : TypeId) (i : Nat) : (w.alloc (.cells cs t)).frozen? ⟨w.heap.size, i, none⟩ = false := by
  rw [frozen?_alloc_cells]; unfold World.frozen?; simp

theorem mat_boxz (w : World) (m : Nat → Int) (t : TypeId) : (∀ i, i < 16 → (w.alloc (.cells (mats m) t)).frozen? ⟨w.heap.size, i, none⟩ = false) := fun i _ => box_frozen w _ t i

/-- One cell of a matrix anew. -/
theorem mat_set {W : World} {b k : Nat} {m n : Nat → Int} {v : Int} (c : (∀ i, i < 16 → W.cell? ⟨b, i, none⟩ = some (.int .i64 (m i)))) (hk : k < 16) (hv : n k = v) (hn : ∀ i, i ≠ k → n i = m i) : (∀ i, i < 16 → (W.setCell ⟨b, k, none⟩ (.int .i64 v)).cell? ⟨b, i, none⟩ = some (.int .i64 (n i))) := by
  intro i hi
  by_cases h : i = k
  · subst h
    rw [World.cell?_setCell_same _ _ _ (c i hi), hv]
  · rw [World.cell?_setCell_other _ _ _ _ (by intro e; injection e; omega), c i hi, hn i h]

theorem mat_set_far {W : World} {b b' k : Nat} {m : Nat → Int} {v : Value} (c : (∀ i, i < 16 → W.cell? ⟨b, i, none⟩ = some (.int .i64 (m i)))) (hb : b' ≠ b) : (∀ i, i < 16 → (W.setCell ⟨b', k, none⟩ v).cell? ⟨b, i, none⟩ = some (.int .i64 (m i))) := by
  intro i hi
  rw [World.cell?_setCell_other _ _ _ _ (by intro e; injection e; omega), c i hi]

theorem matz_set {W : World} {b : Nat} {a : Addr} {v : Value} (c : (∀ i, i < 16 → W.frozen? ⟨b, i, none⟩ = false)) : (∀ i, i < 16 → (W.setCell a v).frozen? ⟨b, i, none⟩ = false) := by
  intro i hi
  rw [World.frozen?_setCell, c i hi]

/-- A whole matrix stored. -/
theorem mat_store {P : Program} {W w : World} {b n : Nat} {m0 m : Nat → Int} (c : (∀ i, i < 16 → W.cell? ⟨b, i, none⟩ = some (.int .i64 (m0 i)))) (f : (∀ i, i < 16 → W.frozen? ⟨b, i, none⟩ = false)) (BB : Below n w W) (hb : n ≤ b) :
    ∃ W', (storeCells ⟨b, 0, none⟩ ((mats m)).toList 0).run P W = .ok () W' ∧
      Below n w W' ∧ (∀ i, i < 16 → W'.cell? ⟨b, i, none⟩ = some (.int .i64 (m i))) ∧ (∀ i, i < 16 → W'.frozen? ⟨b, i, none⟩ = false) ∧ (∀ a : Addr, a.block ≠ b → W'.cell? a = W.cell? a) ∧ (∀ a : Addr, W'.frozen? a = W.frozen? a) ∧ W'.heap.size = W.heap.size := by
  have hs := run_storeCells_cells (P := P) b 0 ((mats m)).toList 0 W (fun j hj => by
    have := c j (by simpa [mats_size] using hj); simp [this]) (fun j hj => by
    have := f j (by simpa [mats_size] using hj); simpa using this) (by simp [mats, Value.oneCell'])
  have hB : ∀ (vs : List Value) (o : Nat) (V : World), Below n w V → Below n w (V.setCells b o vs) := by
    intro vs
    induction vs with
    | nil => intro o V h; exact h
    | cons v r ih => intro o V h; exact ih (o + 1) _ (h.setCell (by exact hb) v)
  have hS : ∀ (vs : List Value) (o : Nat) (V : World), (V.setCells b o vs).heap.size = V.heap.size := by
    intro vs
    induction vs with
    | nil => intro o V; rfl
    | cons v r ih => intro o V; rw [World.setCells, ih (o + 1)]; simp [World.setCell]
  refine ⟨_, hs, hB _ _ _ BB, ?_, ?_, ?_, ?_, hS _ _ _⟩
  · intro i hi
    have h := World.cell?_setCells_in b ((mats m)).toList 0 W (fun j hj => by have := c j (by simpa [mats_size] using hj); simp [this]) i (by simpa [mats_size] using hi)
    have g := mget m i hi
    rw [← Array.getElem?_toList, List.getElem?_eq_getElem (by simpa [mats_size] using hi)] at g
    rw [Nat.zero_add] at h
    rw [h, g]
  · intro i hi
    rw [World.frozen?_setCells]; exact f i hi
  · intro a ha
    exact World.cell?_setCells_out b _ _ _ _ (fun h => absurd h ha)
  · intro a
    exact World.frozen?_setCells b _ _ _ _

theorem mat_far {W W' : World} {b b' : Nat} {m : Nat → Int} (hc : ∀ a : Addr, a.block ≠ b → W'.cell? a = W.cell? a) (h : b' ≠ b) (c : (∀ i, i < 16 → W.cell? ⟨b', i, none⟩ = some (.int .i64 (m i)))) : (∀ i, i < 16 → W'.cell? ⟨b', i, none⟩ = some (.int .i64 (m i))) := fun i hi => (hc ⟨b', i, none⟩ h).trans (c i hi)

theorem matz_far {W W' : World} {b : Nat} (hf : ∀ a : Addr, W'.frozen? a = W.frozen? a) (c : (∀ i, i < 16 → W.frozen? ⟨b, i, none⟩ = false)) : (∀ i, i < 16 → W'.frozen? ⟨b, i, none⟩ = false) := fun i hi => (hf ⟨b, i, none⟩).trans (c i hi)

/-- The operation that stores a whole matrix. -/
theorem wpList_mstore {P : Program} {ops : Array Oper} {rest : List Oper} {o : Oper} {a : Act} {W w : World} {Q : Exit → Act → World → Prop} {b n : Nat} {m0 : Nat → Int} (hg : o.guard = none) (t : TypeId) (x y : Operand) (ho : o.op = .store t x y) (m : Nat → Int)
    (hx : a.eval x = .pointer (some ⟨b, 0, none⟩)) (hy : a.eval y = .agg (mats m)) (c : (∀ i, i < 16 → W.cell? ⟨b, i, none⟩ = some (.int .i64 (m0 i)))) (f : (∀ i, i < 16 → W.frozen? ⟨b, i, none⟩ = false)) (BB : Below n w W) (hb : n ≤ b) (T : MatType P t)
    (h : ∀ W', Below n w W' → (∀ i, i < 16 → W'.cell? ⟨b, i, none⟩ = some (.int .i64 (m i))) → (∀ i, i < 16 → W'.frozen? ⟨b, i, none⟩ = false) → (∀ a : Addr, a.block ≠ b → W'.cell? a = W.cell? a) → (∀ a : Addr, W'.frozen? a = W.frozen? a) → W'.heap.size = W.heap.size → wpList P ops Q rest (a.put o.dst undef) W') : wpList P ops Q (o :: rest) a W := by
  refine wpList_plain hg fun K hK => ?_
  obtain ⟨W', hs, h1, h2, h3, h4, h5, h6⟩ := mat_store (P := P) (m := m) c f BB hb
  have hv : (storeVar t ⟨b, 0, none⟩ (.agg (mats m))).run P W = .ok () W' := by
    have hi := T.size
    cases hq : P.info? t with
    | none => simp [hq] at hi
    | some i =>
      have hz : i.size = 16 := by simpa [hq] using hi
      have hm : (mats m).size = 16 := rfl
      simp [storeVar, sizeOf, typeInfo, hq, Value.cells, hz, hm, hs]
  unfold Oper.wp execOp
  simp only [ho, hx, hy, Instr.storeAt, Instr.sureAddr, Sem.run_bind, Sem.run_pure, Result.andThen_ok, hv]
  exact hK _ _ (h W' h1 h2 h3 h4 h5 h6)

/-- One cell of a matrix anew, as a function. -/
def upd (m : Nat → Int) (k : Nat) (v : Int) (i : Nat) : Int := if i = k then v else m i

/-- The operation that stores one integer into a matrix. -/
theorem wpList_mset {P : Program} {ops : Array Oper} {rest : List Oper} {o : Oper} {a : Act} {W w : World} {Q : Exit → Act → World → Prop} {b n k : Nat} {m : Nat → Int} {v : Int} (hg : o.guard = none) (t : TypeId) (x y : Operand) (ho : o.op = .store t x y)
    (c : (∀ i, i < 16 → W.cell? ⟨b, i, none⟩ = some (.int .i64 (m i)))) (f : (∀ i, i < 16 → W.frozen? ⟨b, i, none⟩ = false)) (BB : Below n w W) (hb : n ≤ b) (hx : a.eval x = .pointer (some ⟨b, k, none⟩)) (hy : a.eval y = .int .i64 v) (hk : k < 16) (hi : (P.info? t).map (·.size) = some 1)
    (h : ∀ W', Below n w W' → (∀ i, i < 16 → W'.cell? ⟨b, i, none⟩ = some (.int .i64 ((upd m k v) i))) → (∀ i, i < 16 → W'.frozen? ⟨b, i, none⟩ = false) → (∀ a : Addr, a.block ≠ b → W'.cell? a = W.cell? a) → (∀ a : Addr, W'.frozen? a = W.frozen? a) → wpList P ops Q rest (a.put o.dst undef) W') : wpList P ops Q (o :: rest) a W := by
  refine wpList_plain hg fun K hK => ?_
  have hs := run_storeCells_cells (P := P) b k [.int .i64 v] 0 W (fun j hj => by
    obtain rfl : j = 0 := by simpa using hj
    simp [c k hk]) (fun j hj => by
    obtain rfl : j = 0 := by simpa using hj
    simpa using f k hk) (by simp [Value.oneCell'])
  have hv : (storeVar t ⟨b, k, none⟩ (.int .i64 v)).run P W = .ok () (W.setCell ⟨b, k, none⟩ (.int .i64 v)) := by
    cases hq : P.info? t with
    | none => simp [hq] at hi
    | some i =>
      have hz : i.size = 1 := by simpa [hq] using hi
      simpa [storeVar, sizeOf, typeInfo, hq, Value.cells, hz, World.setCells] using hs
  unfold Oper.wp execOp
  simp only [ho, hx, hy, Instr.storeAt, Instr.sureAddr, Sem.run_bind, Sem.run_pure, Result.andThen_ok, hv]
  refine hK _ _ (h _ (BB.setCell (by exact hb) _) (mat_set c hk (if_pos rfl) (fun i hi => if_neg hi)) (matz_set f) (fun a ha => ?_) (fun a => World.frozen?_setCell _ _ _ _))
  rw [World.cell?_setCell_other _ _ _ _ (by intro e; rw [← e] at ha; exact ha rfl)]

/-- The same into the block that was made last. -/
theorem wpList_mfill {P : Program} {ops : Array Oper} {rest : List Oper} {o : Oper} {a : Act} {W : World} {Q : Exit → Act → World → Prop} (hg : o.guard = none) (t : TypeId) (x y : Operand) (ho : o.op = .store t x y) (m : Nat → Int) (T : MatType P t)
    (hx : a.eval x = .pointer (some ⟨W.heap.size, 0, none⟩)) (hy : a.eval y = .agg (mats m))
    (h : wpList P ops Q rest (a.put o.dst undef) (W.alloc (.cells ((mats m)) t))) : wpList P ops Q (o :: rest) a (W.alloc (.cells #[.int .i64 0, .int .i64 0, .int .i64 0, .int .i64 0, .int .i64 0, .int .i64 0, .int .i64 0, .int .i64 0, .int .i64 0, .int .i64 0, .int .i64 0, .int .i64 0, .int .i64 0, .int .i64 0, .int .i64 0, .int .i64 0] t)) :=
  wpList_plain hg fun _ hK => by
    have hi : (P.info? t).map (·.size) = some (mats m).size := T.size
    unfold Oper.wp execOp
    simp only [ho, hx, hy, Instr.storeAt, Instr.sureAddr, Sem.run_bind, Sem.run_pure, Result.andThen_ok, run_storeVar_new W t #[.int .i64 0, .int .i64 0, .int .i64 0, .int .i64 0, .int .i64 0, .int .i64 0, .int .i64 0, .int .i64 0, .int .i64 0, .int .i64 0, .int .i64 0, .int .i64 0, .int .i64 0, .int .i64 0, .int .i64 0, .int .i64 0] (mats m) hi rfl (by simp [mats, Value.oneCell'])]
    exact hK _ _ h

theorem eqItems_same {P : Program} {e : TypeId} (hp : P.plainKey e = true) (he : P.underlying e = some (.int .i64)) (d : Nat) (xs : Array Value) (w : World) : ∀ is : List Nat, (∀ i ∈ is, ∃ v, xs[i]? = some (.int .i64 v)) → (Op.eqItems (d + 1) e 1 xs xs is).run P w = .ok true w
  | [], _ => by simp [Op.eqItems]
  | i :: is, h => by
    obtain ⟨v, hv⟩ := h i (by simp)
    have hq : (part e xs (i * 1)).run P w = .ok (.int .i64 v) w := run_part_plain w hp (by rw [Nat.mul_one]; exact hv)
    have ih := eqItems_same hp he d xs w is (fun j hj => h j (by simp [hj]))
    simp only [Op.eqItems, Sem.run_bind, hq, Result.andThen_ok, run_equalIn_int w d e .i64 .i64 v v he]
    simpa using ih

/-- Two matrices that are the same. -/
theorem mat_eq {P : Program} {t e : TypeId} {i : TypeInfo} (hu : P.underlying t = some (.array 16 e)) (hi : P.info? e = some i) (hc : P.cellsOf e = 1) (hp : P.plainKey e = true) (he : P.underlying e = some (.int .i64))
    (m : Nat → Int) (w : World) : (Op.equalIn 10000 t (.agg (mats m)) (.agg (mats m))).run P w = .ok true w := by
  rw [run_equalIn_array w 9999 _ _ hu hi, hc]
  exact eqItems_same hp he 9998 _ w _ (fun j hj => ⟨_, mget m j (by simpa using hj)⟩)

end Go.Proofs.Ytlchecnencbamaa
