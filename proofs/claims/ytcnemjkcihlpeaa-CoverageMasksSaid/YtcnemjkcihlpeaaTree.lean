/- A region that draws its order and holds calls, allocations and stores beside reads of what lay ahead of it: a tree of walks serves every order. The operations that only read are taken as soon as they may come up; wherever others may come up each of them is met (a fork). What lay ahead of the region stays as it was (C). No program is named here. -/
import Derived.Test.YtcnemjkcihlpeaaGrow
import Derived.Test.YtcnemjkcihlpeaaBelow
import Derived.Laws.IdiomCopy
namespace Go.Proofs.Ytcnemjkcihlpeaa
set_option linter.unusedSimpArgs false
open Go.RowKit Go.Sort

/-- The walks: a read taken first; one, two or three operations of which any may come up. -/
inductive Tr where
  | nil : Tr
  | read : Nat → Tr → Tr
  | fork1 : Nat → Tr → Tr
  | fork2 : Nat → Tr → Nat → Tr → Tr
  | fork3 : Nat → Tr → Nat → Tr → Nat → Tr → Tr

section
variable {P : Program} {ops : Array Oper} {md : Region.Mode} {Q : Exit → Act → World → Prop} {C : World → Prop}

/-- Behind one operation that is met: the world is of the class, and the walk goes on. -/
def treeQ (Q : Exit → Act → World → Prop) (C : World → Prop) (N : Act → World → Prop) : Exit → Act → World → Prop
  | .normal, a, w' => C w' ∧ N a w'
  | e, a, w' => Q e a w'

def wpTr (P : Program) (ops : Array Oper) (Q : Exit → Act → World → Prop) (C : World → Prop) : Tr → Act → World → Prop
  | .nil, a, w => Q .normal a w
  | .read i t, a, w => ∃ o, ops[i]? = some o ∧ wpQuiet P ops C (fun a' => wpTr P ops Q C t a' w) [o] a
  | .fork1 i t, a, w => ∃ o, ops[i]? = some o ∧ wpList P ops (treeQ Q C (wpTr P ops Q C t)) [o] a w
  | .fork2 i t j u, a, w => (∃ o, ops[i]? = some o ∧ wpList P ops (treeQ Q C (wpTr P ops Q C t)) [o] a w) ∧ (∃ o, ops[j]? = some o ∧ wpList P ops (treeQ Q C (wpTr P ops Q C u)) [o] a w)
  | .fork3 i t j u k v, a, w => (∃ o, ops[i]? = some o ∧ wpList P ops (treeQ Q C (wpTr P ops Q C t)) [o] a w) ∧ (∃ o, ops[j]? = some o ∧ wpList P ops (treeQ Q C (wpTr P ops Q C u)) [o] a w) ∧ (∃ o, ops[k]? = some o ∧ wpList P ops (treeQ Q C (wpTr P ops Q C v)) [o] a w)

def treeB (md : Region.Mode) (ops : Array Oper) : Nat → Tr → Array Bool → Bool
  | 0, .nil, l => (Region.ready md ops l).isEmpty
  | n + 1, .read i t, l => (match ops[i]? with | some o => valueOp o | none => false) && (Region.ready md ops l).contains i && Region.free md ops l i && treeB md ops n t (l.setIfInBounds i true)
  | n + 1, .fork1 i t, l => decide (Region.ready md ops l = [i]) && treeB md ops n t (l.setIfInBounds i true)
  | n + 1, .fork2 i t j u, l => decide (Region.ready md ops l = [i, j]) && treeB md ops n t (l.setIfInBounds i true) && treeB md ops n u (l.setIfInBounds j true)
  | n + 1, .fork3 i t j u k v, l => decide (Region.ready md ops l = [i, j, k]) && treeB md ops n t (l.setIfInBounds i true) && treeB md ops n u (l.setIfInBounds j true) && treeB md ops n v (l.setIfInBounds k true)
  | _, _, _ => false

theorem op_case {i n : Nat} {l : Array Bool} {a : Act} {w : World} {t : Tr} (ih : ∀ a' w', C w' → wpTr P ops Q C t a' w' → wpAnyH P md ops Q C n l a' w')
    (h : ∃ o, ops[i]? = some o ∧ wpList P ops (treeQ Q C (wpTr P ops Q C t)) [o] a w) : wpOp P ops Q i (fun a' w' => C w' ∧ wpAnyH P md ops Q C n l a' w') a w := by
  obtain ⟨o, ho, hw⟩ := h
  unfold wpOp
  simp only [ho]
  simp only [wpList] at hw
  by_cases hwant : Region.wanted o (yielded ops a.tmps) = true
  · rw [if_pos hwant] at hw ⊢
    refine hw.imp (fun h4 => ?_) (fun h4 => ⟨h4.1, by obtain ⟨a', w', h5⟩ := h4.2; exact ⟨a', w', h5⟩⟩)
    unfold Oper.wp at *
    generalize (execOp a.eval o).run P w = r at *
    cases r with
    | ok n w' =>
      cases n <;> simp only [Oper.upon] at h4 ⊢ <;>
        first
          | exact ⟨h4.1, ih _ _ h4.1 h4.2⟩
          | exact Calls.mono h4 (fun e w'' he => by
              cases e with
              | returned u => exact ⟨he.1, ih _ _ he.1 he.2⟩
              | panicked c => exact he
              | outgrown => obtain ⟨a', w', h5⟩ := he; exact ⟨a', w', h5⟩)
          | exact Rows.mono h4 (fun _ _ he => ⟨he.1, ih _ _ he.1 he.2⟩)
    | halt x w' => cases x <;> simp only [Oper.upon] at h4 ⊢ <;> exact h4
  · rw [if_neg hwant] at hw ⊢
    exact ⟨hw.1, ih _ _ hw.1 hw.2⟩

theorem wpAnyH_of_tree (hsel : Region.noSelect ops = true) (hQ : ∀ c a w, ¬ Q (.panic c) a w) : ∀ (n : Nat) (t : Tr) (listed : Array Bool) (a : Act) (w : World),
    treeB md ops n t listed = true → C w → wpTr P ops Q C t a w → wpAnyH P md ops Q C n listed a w := by
  intro n
  induction n with
  | zero =>
    intro t listed a w hB hC h
    cases t with
    | nil => exact ⟨by simpa [treeB] using hB, h⟩
    | read _ _ => simp [treeB] at hB
    | fork1 _ _ => simp [treeB] at hB
    | fork2 _ _ _ _ => simp [treeB] at hB
    | fork3 _ _ _ _ _ _ => simp [treeB] at hB
  | succ n ih =>
    intro t listed a w hB hC h
    cases t with
    | nil => simp [treeB] at hB
    | read i t =>
      obtain ⟨o, ho, hw⟩ := h
      simp only [treeB, ho, Bool.and_eq_true] at hB
      obtain ⟨⟨⟨hv, hr⟩, hf⟩, hB2⟩ := hB
      have hready : i ∈ Region.ready md ops listed := by simpa using hr
      simp only [wpQuiet] at hw
      obtain ⟨v, hy, hK⟩ : ∃ v, YieldsIf P ops C o v a ∧ wpTr P ops Q C t (a.put o.dst v) w := by
        by_cases hwant : Region.wanted o (yielded ops a.tmps) = true
        · rw [if_pos hwant] at hw
          obtain ⟨v, hv1, hv2⟩ := hw
          refine ⟨v, .inl ⟨hwant, fun W hW => ?_⟩, hv2⟩
          have h3 := hv1 W hW
          unfold Oper.quietAt at h3
          cases hr : (execOp a.eval o).run P W with
          | ok n w' =>
            obtain ⟨x, rfl⟩ := value_of hv hr
            rw [hr] at h3
            simp only [Oper.quietUpon] at h3
            rw [h3.1, h3.2]
          | halt x w' => rw [hr] at h3; simp only [Oper.quietUpon] at h3
        · rw [if_neg hwant] at hw
          exact ⟨undef, .inr ⟨by simpa using hwant, rfl⟩, hw⟩
      exact wpAnyH_first ho (Region.noSelect_spec hsel) (fun c a w h => absurd h (hQ c _ w)) n listed a w (Region.free_spec ho hf) hready hy hC (ih t _ _ w hB2 hC hK)
    | fork1 i t =>
      simp only [treeB, Bool.and_eq_true, decide_eq_true_eq] at hB
      refine ⟨fun h1 => (by rw [hB.1] at h1; cases h1), fun x hx => ?_⟩
      rw [hB.1] at hx
      obtain rfl : x = i := by simpa using hx
      exact op_case (fun a' w' hC' h' => ih t _ a' w' hB.2 hC' h') h
    | fork2 i t j u =>
      simp only [treeB, Bool.and_eq_true, decide_eq_true_eq] at hB
      refine ⟨fun h1 => (by rw [hB.1.1] at h1; cases h1), fun x hx => ?_⟩
      rw [hB.1.1] at hx
      have hx' : x = i ∨ x = j := by simpa using hx
      rcases hx' with rfl | rfl
      · exact op_case (fun a' w' hC' h' => ih t _ a' w' hB.1.2 hC' h') h.1
      · exact op_case (fun a' w' hC' h' => ih u _ a' w' hB.2 hC' h') h.2
    | fork3 i t j u k v =>
      simp only [treeB, Bool.and_eq_true, decide_eq_true_eq] at hB
      refine ⟨fun h1 => (by rw [hB.1.1.1] at h1; cases h1), fun x hx => ?_⟩
      rw [hB.1.1.1] at hx
      have hx' : x = i ∨ x = j ∨ x = k := by simpa using hx
      rcases hx' with rfl | rfl | rfl
      · exact op_case (fun a' w' hC' h' => ih t _ a' w' hB.1.1.2 hC' h') h.1
      · exact op_case (fun a' w' hC' h' => ih u _ a' w' hB.1.2 hC' h') h.2.1
      · exact op_case (fun a' w' hC' h' => ih v _ a' w' hB.2 hC' h') h.2.2

/-- The worlds in which all that lay ahead of the region lies as it did. -/
def Ahead (w W : World) : Prop := ∃ p : Regrown, W = grow (redrawn w p.d) p.os
theorem Ahead.below {w W : World} (h : Ahead w W) : Below w.heap.size w W := by obtain ⟨p, rfl⟩ := h; exact below_regrown _ _ _
theorem Ahead.of {w W : World} (h : Below w.heap.size w W) : Ahead w W := regrown_of_below h

/-- The region's law: 't' is the tree of the walks. -/
theorem wp_region_tree {id : Nat} {Q : Exit → Act → World → Prop} {a : Act} {w : World} {l : List Oper} (t : Tr) (hm : P.follows .mixedOrders = true)
    (hB : (Region.noSelect l.toArray && treeB .any l.toArray l.length t (Array.replicate l.length false)) = true)
    (h : ∀ W, Below w.heap.size w W → wpTr P l.toArray (NoPanic Q) (fun W => ∃ p : Regrown, W = grow (redrawn w p.d) p.os) t a W) : (Code.region id l.toArray true).wp P Q a w := by
  simp only [Bool.and_eq_true] at hB
  have hb : Below w.heap.size w { w with drawn := w.drawn + 1 } := ⟨rfl, rfl, rfl, Nat.le_refl _, fun _ _ => rfl⟩
  refine wp_region_noPanic (wp_region_any hm (wpAny_of_held (S := fun W => ∃ p : Regrown, W = grow (redrawn w p.d) p.os) _ _ _ _ ?_))
  have := wpAnyH_of_tree (P := P) (md := .any) (Q := NoPanic Q) (C := fun W => ∃ p : Regrown, W = grow (redrawn w p.d) p.os) hB.1 (fun c a w h => h) l.length t _ a { w with drawn := w.drawn + 1 } hB.2 (Ahead.of hb) (h _ hb)
  simpa using this

theorem tree_nil {a : Act} {w : World} (h : Q .normal a w) : wpTr P ops (NoPanic Q) C .nil a w := h

/-- From here on of the world only S is known. -/
theorem tree_letter {t : Tr} {a : Act} {w : World} {S : World → Prop} (h : ∀ W, S W → wpTr P ops Q C t a W) (hs : S w) : wpTr P ops Q C t a w := h w hs

/-- The operation that stores a vector of four integers. -/
theorem wpList_vstore {rest : List Oper} {o : Oper} {a : Act} {W w : World} {b n : Nat} {u0 u1 u2 u3 : Value} (hg : o.guard = none) (t : TypeId) (x y : Operand) (ho : o.op = .store t x y) (v0 v1 v2 v3 : Int)
    (hx : a.eval x = .pointer (some ⟨b, 0, none⟩)) (hy : a.eval y = .agg #[.int .i64 v0, .int .i64 v1, .int .i64 v2, .int .i64 v3]) (d0 : W.cell? ⟨b, 0, none⟩ = some u0) (d1 : W.cell? ⟨b, 1, none⟩ = some u1) (d2 : W.cell? ⟨b, 2, none⟩ = some u2) (d3 : W.cell? ⟨b, 3, none⟩ = some u3)
    (f : ∀ i, W.frozen? ⟨b, i, none⟩ = false) (BB : Below n w W) (hb : n ≤ b) (T : (P.info? t).map (·.size) = some 4)
    (h : ∀ W', Below n w W' → W'.cell? ⟨b, 0, none⟩ = some (.int .i64 v0) → W'.cell? ⟨b, 1, none⟩ = some (.int .i64 v1) → W'.cell? ⟨b, 2, none⟩ = some (.int .i64 v2) → W'.cell? ⟨b, 3, none⟩ = some (.int .i64 v3) →
      (∀ a : Addr, a.block ≠ b → W'.cell? a = W.cell? a) → (∀ a : Addr, W'.frozen? a = W.frozen? a) → wpList P ops Q rest (a.put o.dst undef) W') : wpList P ops Q (o :: rest) a W := by
  refine wpList_plain hg fun K hK => ?_
  have hc : ∀ j, j < 4 → (W.cell? ⟨b, j, none⟩).isSome = true := fun j hj => by
    match j, hj with
    | 0, _ => simp [d0]
    | 1, _ => simp [d1]
    | 2, _ => simp [d2]
    | 3, _ => simp [d3]
  have hs := run_storeCells_cells (P := P) b 0 [.int .i64 v0, .int .i64 v1, .int .i64 v2, .int .i64 v3] 0 W (fun j hj => by simpa using hc j (by simpa using hj)) (fun j _ => by simpa using f j) (by simp [Value.oneCell'])
  have hB : ∀ (vs : List Value) (o : Nat) (V : World), Below n w V → Below n w (V.setCells b o vs) := by
    intro vs
    induction vs with
    | nil => intro o V h; exact h
    | cons v r ih => intro o V h; exact ih (o + 1) _ (h.setCell (by exact hb) v)
  have hv : (storeVar t ⟨b, 0, none⟩ (.agg #[.int .i64 v0, .int .i64 v1, .int .i64 v2, .int .i64 v3])).run P W = .ok () (W.setCells b (0 + 0) [.int .i64 v0, .int .i64 v1, .int .i64 v2, .int .i64 v3]) := by
    cases hq : P.info? t with
    | none => simp [hq] at T
    | some i =>
      have hz : i.size = 4 := by simpa [hq] using T
      simpa [storeVar, sizeOf, typeInfo, hq, Value.cells, hz] using hs
  have hi := World.cell?_setCells_in b [.int .i64 v0, .int .i64 v1, .int .i64 v2, .int .i64 v3] 0 W (fun j hj => by simpa using hc j (by simpa using hj))
  unfold Oper.wp execOp
  simp only [ho, hx, hy, Instr.storeAt, Instr.sureAddr, Sem.run_bind, Sem.run_pure, Result.andThen_ok, hv]
  refine hK _ _ (h _ (hB _ _ _ BB) (hi 0 (by simp)) (hi 1 (by simp)) (hi 2 (by simp)) (hi 3 (by simp)) (fun a ha => World.cell?_setCells_out b _ _ _ _ (fun h => absurd h ha)) (fun a => World.frozen?_setCells b _ _ _ _))

theorem tree_read {i : Nat} {t : Tr} {a : Act} {w : World} {o : Oper} (ho : ops[i]? = some o) (h : wpQuiet P ops C (fun a' => wpTr P ops Q C t a' w) [o] a) : wpTr P ops Q C (.read i t) a w := ⟨o, ho, h⟩

theorem tree_one {i : Nat} {t : Tr} {a : Act} {w : World} {o : Oper} (ho : ops[i]? = some o) (h : wpList P ops (treeQ Q C (wpTr P ops Q C t)) [o] a w) : wpTr P ops Q C (.fork1 i t) a w := ⟨o, ho, h⟩

theorem tree_two {i j : Nat} {t u : Tr} {a : Act} {w : World} {o p : Oper} (ho : ops[i]? = some o) (hp : ops[j]? = some p) (h : wpList P ops (treeQ Q C (wpTr P ops Q C t)) [o] a w) (k : wpList P ops (treeQ Q C (wpTr P ops Q C u)) [p] a w) : wpTr P ops Q C (.fork2 i t j u) a w := ⟨⟨o, ho, h⟩, ⟨p, hp, k⟩⟩

theorem tree_three {i j k : Nat} {t u v : Tr} {a : Act} {w : World} {o p q : Oper} (ho : ops[i]? = some o) (hp : ops[j]? = some p) (hq : ops[k]? = some q) (h : wpList P ops (treeQ Q C (wpTr P ops Q C t)) [o] a w) (h2 : wpList P ops (treeQ Q C (wpTr P ops Q C u)) [p] a w) (h3 : wpList P ops (treeQ Q C (wpTr P ops Q C v)) [q] a w) : wpTr P ops Q C (.fork3 i t j u k v) a w := ⟨⟨o, ho, h⟩, ⟨p, hp, h2⟩, ⟨q, hq, h3⟩⟩

end
end Go.Proofs.Ytcnemjkcihlpeaa
