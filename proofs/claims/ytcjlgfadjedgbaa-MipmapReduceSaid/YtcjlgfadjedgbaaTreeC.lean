/- A region that draws its order and holds calls that make memory: one walk serves every order. The operations that only read are taken as soon as they may come up, in the order that is given ('ord'); a call is met when nothing else may come up. What a call returns may hang on the world. No program is named here. -/
import Derived.OrdersHeld
import Derived.Deep.RegionHeld3
import Derived.Lib.QuietBelow
import Derived.BigQuiet
import Derived.Test.YtcjlgfadjedgbaaBelow
import Derived.Laws.IdiomCopy
namespace Go.Proofs.Ytcjlgfadjedgbaa
open Go.RowKit Go.Sort

section
variable {P : Program} {ops : Array Oper} {md : Region.Mode} {Q : Exit → Act → World → Prop}

/-- Of what lay nothing has changed; blocks may have been laid, draws made. -/
def Grows (w W : World) : Prop := ∃ p : Regrown, W = grow (redrawn w p.d) p.os
theorem Grows.below {w W : World} (h : Grows w W) : Below w.heap.size w W := by obtain ⟨p, rfl⟩ := h; exact below_regrown _ _ _
theorem Grows.of {w W : World} (h : Below w.heap.size w W) : Grows w W := regrown_of_below h
theorem Grows.refl (w : World) : Grows w w := Grows.of (Below.refl _ _)
theorem Grows.trans {w W V : World} (h : Grows w W) (k : Grows W V) : Grows w V := Grows.of (h.below.trans (k.below.mono h.below.size))

/-- What is held of the worlds to come may be more. -/
theorem wpAnyH_more {S S' : World → Prop} (hS : ∀ w, S w → S' w) : ∀ (fuel : Nat) (listed : Array Bool) (a : Act) (w : World), wpAnyH P md ops Q S fuel listed a w → wpAnyH P md ops Q S' fuel listed a w
  | 0, _, _, _, h => h
  | n + 1, _, _, _, h => ⟨h.1, fun i hi => wpOp_mono (fun _ _ k => ⟨hS _ k.1, wpAnyH_more hS n _ _ _ k.2⟩) (h.2 i hi)⟩

/-- An operation that, if it ends, yields a value: no call, no store. -/
def valueOp (o : Oper) : Bool :=
  match o.op with
  | .move _ | .assign _ | .pick .. | .build .. | .load .. | .binOp .. | .unOp .. | .convert .. | .fieldAddr .. | .field .. | .indexAddr .. | .index .. | .slice .. | .makeFunc .. => true
  | .call c => match c.callee with | .builtin .len => true | .builtin .cap => true | .builtin .min => true | .builtin .max => true | _ => false
  | _ => false

theorem value_v {α : Type} {s : Sem α} {f : α → Value} {w w' : World} {n : Next} (hr : (do let x ← s; pure (Next.value (f x)) : Sem Next).run P w = .ok n w') : ∃ x, n = .value x := by
  rw [Sem.run_bind] at hr
  cases h : s.run P w with
  | ok x w1 => rw [h] at hr; simp [Result.andThen] at hr; exact ⟨_, hr.1.symm⟩
  | halt x w1 => rw [h] at hr; simp [Result.andThen] at hr

theorem value_of {o : Oper} {ρ : Operand → Value} {w w' : World} {n : Next} (h : valueOp o = true) (hr : (execOp ρ o).run P w = .ok n w') : ∃ x, n = .value x := by
  unfold valueOp at h
  unfold execOp at hr
  split at h
  all_goals first
    | (cases h; done)
    | skip
  all_goals try (rename_i heq; simp only [heq] at hr)
  all_goals first
    | exact value_v (f := fun x => x) hr
    | exact value_v hr
    | (simp at hr; exact ⟨_, hr.1.symm⟩)
    | skip
  rename_i c hc
  split at h
  all_goals first
    | (cases h; done)
    | (rename_i hb; simp [resolve, hb, invoke] at hr; exact value_v (f := fun x => x) hr)

/-! ### the walk -/

/-- Behind one call: what lay lies, and the walk goes on. -/
def growQ (Q : Exit → Act → World → Prop) (w : World) (N : Act → World → Prop) : Exit → Act → World → Prop
  | .normal, a, w' => Grows w w' ∧ N a w'
  | e, a, w' => Q e a w'

def wpGrow (P : Program) (ops : Array Oper) (Q : Exit → Act → World → Prop) : List Nat → Act → World → Prop
  | [], a, w => Q .normal a w
  | i :: rest, a, w => ∃ o, ops[i]? = some o ∧
    if valueOp o = true then wpQuiet P ops (fun W => ∃ p : Regrown, W = grow (redrawn w p.d) p.os) (fun a' => wpGrow P ops Q rest a' w) [o] a
    else wpList P ops (growQ Q w (wpGrow P ops Q rest)) [o] a w

theorem grow_read {i : Nat} {rest : List Nat} {a : Act} {w : World} {o : Oper} (ho : ops[i]? = some o) (hv : valueOp o = true)
    (h : wpQuiet P ops (fun W => ∃ p : Regrown, W = grow (redrawn w p.d) p.os) (fun a' => wpGrow P ops Q rest a' w) [o] a) : wpGrow P ops Q (i :: rest) a w :=
  ⟨o, ho, by rw [if_pos hv]; exact h⟩
theorem grow_call {i : Nat} {rest : List Nat} {a : Act} {w : World} {o : Oper} (ho : ops[i]? = some o) (hv : valueOp o = false)
    (h : wpList P ops (growQ Q w (wpGrow P ops Q rest)) [o] a w) : wpGrow P ops Q (i :: rest) a w :=
  ⟨o, ho, by rw [if_neg (by simp [hv])]; exact h⟩

theorem grow_nil {a : Act} {w : World} (h : Q .normal a w) : wpGrow P ops (NoPanic Q) [] a w := h

/-- Each operation of the order may come up when it is its turn: one that reads ahead of all that do not wait for it, any other when nothing else may come up. -/
def growB (md : Region.Mode) (ops : Array Oper) : List Nat → Array Bool → Bool
  | [], listed => (Region.ready md ops listed).isEmpty
  | i :: rest, listed => (match ops[i]? with
    | some o => if valueOp o then (Region.ready md ops listed).contains i && Region.free md ops listed i else decide (Region.ready md ops listed = [i])
    | none => false) && growB md ops rest (listed.setIfInBounds i true)

theorem wpAnyH_of_grow (hsel : Region.noSelect ops = true) (hQ : ∀ c a w, ¬ Q (.panic c) a w) : ∀ (ord : List Nat) (listed : Array Bool) (a : Act) (w : World),
    growB md ops ord listed = true → wpGrow P ops Q ord a w → wpAnyH P md ops Q (Grows w) ord.length listed a w
  | [], _, _, _, hB, h => ⟨by simpa [growB] using hB, h⟩
  | i :: rest, listed, a, w, hB, h => by
    obtain ⟨o, ho, hw⟩ := h
    simp only [growB, ho, Bool.and_eq_true] at hB
    obtain ⟨hB1, hB2⟩ := hB
    by_cases hv : valueOp o = true
    · rw [if_pos hv] at hw
      simp only [hv, if_true, Bool.and_eq_true] at hB1
      have hready : i ∈ Region.ready md ops listed := by simpa using hB1.1
      simp only [wpQuiet] at hw
      obtain ⟨v, hy, hK⟩ : ∃ v, YieldsIf P ops (Grows w) o v a ∧ wpGrow P ops Q rest (a.put o.dst v) w := by
        by_cases hwant : Region.wanted o (yielded ops a.tmps) = true
        · rw [if_pos hwant] at hw
          obtain ⟨v, hv1, hv2⟩ := hw
          refine ⟨v, .inl ⟨hwant, fun W hW => ?_⟩, hv2⟩
          have h3 := hv1 W hW
          unfold Oper.quietAt at h3
          cases hr : (execOp a.eval o).run P W with
          | ok n w' =>
            obtain ⟨x, rfl⟩ := value_of hv hr
            rw [hr] at h3
            simp only [Oper.quietUpon] at h3
            rw [h3.1, h3.2]
          | halt x w' => rw [hr] at h3; simp only [Oper.quietUpon] at h3
        · rw [if_neg hwant] at hw
          exact ⟨undef, .inr ⟨by simpa using hwant, rfl⟩, hw⟩
      exact wpAnyH_first ho (Region.noSelect_spec hsel) (fun c a w h => absurd h (hQ c _ w)) rest.length listed a w (Region.free_spec ho hB1.2) hready hy (Grows.refl w)
        (wpAnyH_of_grow hsel hQ rest _ _ w hB2 hK)
    · rw [if_neg hv] at hw
      simp only [hv] at hB1
      have hB1' : Region.ready md ops listed = [i] := by simpa using hB1
      refine ⟨fun h1 => (by rw [hB1'] at h1; cases h1), fun j hj => ?_⟩
      rw [hB1'] at hj
      obtain rfl : j = i := by simpa using hj
      unfold wpOp
      simp only [ho]
      simp only [wpList] at hw
      by_cases hwant : Region.wanted o (yielded ops a.tmps) = true
      · rw [if_pos hwant] at hw ⊢
        refine hw.imp (fun h4 => ?_) (fun h4 => ⟨h4.1, by obtain ⟨a', w', h5⟩ := h4.2; exact ⟨a', w', h5⟩⟩)
        unfold Oper.wp at *
        generalize (execOp a.eval o).run P w = r at *
        cases r with
        | ok n w' =>
          cases n <;> simp only [Oper.upon] at h4 ⊢ <;>
            first
              | exact ⟨h4.1, wpAnyH_more (fun _ k => h4.1.trans k) _ _ _ _ (wpAnyH_of_grow hsel hQ rest _ _ _ hB2 h4.2)⟩
              | exact Calls.mono h4 (fun e w'' he => by
                  cases e with
                  | returned u => exact ⟨he.1, wpAnyH_more (fun _ k => he.1.trans k) _ _ _ _ (wpAnyH_of_grow hsel hQ rest _ _ _ hB2 he.2)⟩
                  | panicked c => exact he
                  | outgrown => obtain ⟨a', w', h5⟩ := he; exact ⟨a', w', h5⟩)
              | exact Rows.mono h4 (fun _ _ he => ⟨he.1, wpAnyH_more (fun _ k => he.1.trans k) _ _ _ _ (wpAnyH_of_grow hsel hQ rest _ _ _ hB2 he.2)⟩)
        | halt x w' => cases x <;> simp only [Oper.upon] at h4 ⊢ <;> exact h4
      · rw [if_neg hwant] at hw ⊢
        exact ⟨hw.1, wpAnyH_of_grow hsel hQ rest _ _ _ hB2 hw.2⟩

/-- The region's law: 'ord' is the order of the walk. -/
theorem wp_region_grow {id : Nat} {Q : Exit → Act → World → Prop} {a : Act} {w : World} {l : List Oper} (ord : List Nat) (hm : P.follows .mixedOrders = true)
    (hB : (Region.noSelect l.toArray && decide (ord.length = l.length) && growB .any l.toArray ord (Array.replicate l.length false)) = true)
    (h : ∀ W, Below w.heap.size w W → wpGrow P l.toArray (NoPanic Q) ord a W) : (Code.region id l.toArray true).wp P Q a w := by
  simp only [Bool.and_eq_true, decide_eq_true_eq] at hB
  obtain ⟨⟨hs, hl⟩, hg⟩ := hB
  refine wp_region_noPanic (wp_region_any hm (wpAny_of_held (S := Grows { w with drawn := w.drawn + 1 }) _ _ _ _ ?_))
  have := wpAnyH_of_grow (P := P) (md := .any) (Q := NoPanic Q) hs (fun c a w h => h) ord _ a { w with drawn := w.drawn + 1 } hg (h _ ⟨rfl, rfl, rfl, Nat.le_refl _, fun _ _ => rfl⟩)
  rw [hl] at this
  simpa using this

end
end Go.Proofs.Ytcjlgfadjedgbaa

/- A region that draws its order and holds calls, allocations and stores beside reads of what lay ahead of it: a tree of walks serves every order. The operations that only read are taken as soon as they may come up; wherever others may come up each of them is met (a fork). What lay ahead of the region stays as it was (C). No program is named here. -/
namespace Go.Proofs.Ytcjlgfadjedgbaa
open Go.RowKit Go.Sort

/-- The walks: a read taken first; one, two or three operations of which any may come up. -/
inductive Tr where
  | nil : Tr
  | read : Nat → Tr → Tr
  | fork1 : Nat → Tr → Tr
  | fork2 : Nat → Tr → Nat → Tr → Tr
  | fork3 : Nat → Tr → Nat → Tr → Nat → Tr → Tr

section
variable {P : Program} {ops : Array Oper} {md : Region.Mode} {Q : Exit → Act → World → Prop} {C : World → Prop}

/-- Behind one operation that is met: the world is of the class, and the walk goes on. -/
def treeQ (Q : Exit → Act → World → Prop) (C : World → Prop) (N : Act → World → Prop) : Exit → Act → World → Prop
  | .normal, a, w' => C w' ∧ N a w'
  | e, a, w' => Q e a w'

def wpTr (P : Program) (ops : Array Oper) (Q : Exit → Act → World → Prop) (C : World → Prop) : Tr → Act → World → Prop
  | .nil, a, w => Q .normal a w
  | .read i t, a, w => ∃ o, ops[i]? = some o ∧ wpQuiet P ops C (fun a' => wpTr P ops Q C t a' w) [o] a
  | .fork1 i t, a, w => ∃ o, ops[i]? = some o ∧ wpList P ops (treeQ Q C (wpTr P ops Q C t)) [o] a w
  | .fork2 i t j u, a, w => (∃ o, ops[i]? = some o ∧ wpList P ops (treeQ Q C (wpTr P ops Q C t)) [o] a w) ∧ (∃ o, ops[j]? = some o ∧ wpList P ops (treeQ Q C (wpTr P ops Q C u)) [o] a w)
  | .fork3 i t j u k v, a, w => (∃ o, ops[i]? = some o ∧ wpList P ops (treeQ Q C (wpTr P ops Q C t)) [o] a w) ∧ (∃ o, ops[j]? = some o ∧ wpList P ops (treeQ Q C (wpTr P ops Q C u)) [o] a w) ∧ (∃ o, ops[k]? = some o ∧ wpList P ops (treeQ Q C (wpTr P ops Q C v)) [o] a w)

def treeB (md : Region.Mode) (ops : Array Oper) : Nat → Tr → Array Bool → Bool
  | 0, .nil, l => (Region.ready md ops l).isEmpty
  | n + 1, .read i t, l => (match ops[i]? with | some o => valueOp o | none => false) && (Region.ready md ops l).contains i && Region.free md ops l i && treeB md ops n t (l.setIfInBounds i true)
  | n + 1, .fork1 i t, l => decide (Region.ready md ops l = [i]) && treeB md ops n t (l.setIfInBounds i true)
  | n + 1, .fork2 i t j u, l => decide (Region.ready md ops l = [i, j]) && treeB md ops n t (l.setIfInBounds i true) && treeB md ops n u (l.setIfInBounds j true)
  | n + 1, .fork3 i t j u k v, l => decide (Region.ready md ops l = [i, j, k]) && treeB md ops n t (l.setIfInBounds i true) && treeB md ops n u (l.setIfInBounds j true) && treeB md ops n v (l.setIfInBounds k true)
  | _, _, _ => false

theorem op_case {i n : Nat} {l : Array Bool} {a : Act} {w : World} {t : Tr} (ih : ∀ a' w', C w' → wpTr P ops Q C t a' w' → wpAnyH P md ops Q C n l a' w')
    (h : ∃ o, ops[i]? = some o ∧ wpList P ops (treeQ Q C (wpTr P ops Q C t)) [o] a w) : wpOp P ops Q i (fun a' w' => C w' ∧ wpAnyH P md ops Q C n l a' w') a w := by
  obtain ⟨o, ho, hw⟩ := h
  unfold wpOp
  simp only [ho]
  simp only [wpList] at hw
  by_cases hwant : Region.wanted o (yielded ops a.tmps) = true
  · rw [if_pos hwant] at hw ⊢
    refine hw.imp (fun h4 => ?_) (fun h4 => ⟨h4.1, by obtain ⟨a', w', h5⟩ := h4.2; exact ⟨a', w', h5⟩⟩)
    unfold Oper.wp at *
    generalize (execOp a.eval o).run P w = r at *
    cases r with
    | ok n w' =>
      cases n <;> simp only [Oper.upon] at h4 ⊢ <;>
        first
          | exact ⟨h4.1, ih _ _ h4.1 h4.2⟩
          | exact Calls.mono h4 (fun e w'' he => by
              cases e with
              | returned u => exact ⟨he.1, ih _ _ he.1 he.2⟩
              | panicked c => exact he
              | outgrown => obtain ⟨a', w', h5⟩ := he; exact ⟨a', w', h5⟩)
          | exact Rows.mono h4 (fun _ _ he => ⟨he.1, ih _ _ he.1 he.2⟩)
    | halt x w' => cases x <;> simp only [Oper.upon] at h4 ⊢ <;> exact h4
  · rw [if_neg hwant] at hw ⊢
    exact ⟨hw.1, ih _ _ hw.1 hw.2⟩

theorem wpAnyH_of_tree (hsel : Region.noSelect ops = true) (hQ : ∀ c a w, ¬ Q (.panic c) a w) : ∀ (n : Nat) (t : Tr) (listed : Array Bool) (a : Act) (w : World),
    treeB md ops n t listed = true → C w → wpTr P ops Q C t a w → wpAnyH P md ops Q C n listed a w := by
  intro n
  induction n with
  | zero =>
    intro t listed a w hB hC h
    cases t with
    | nil => exact ⟨by simpa [treeB] using hB, h⟩
    | read _ _ => simp [treeB] at hB
    | fork1 _ _ => simp [treeB] at hB
    | fork2 _ _ _ _ => simp [treeB] at hB
    | fork3 _ _ _ _ _ _ => simp [treeB] at hB
  | succ n ih =>
    intro t listed a w hB hC h
    cases t with
    | nil => simp [treeB] at hB
    | read i t =>
      obtain ⟨o, ho, hw⟩ := h
      simp only [treeB, ho, Bool.and_eq_true] at hB
      obtain ⟨⟨⟨hv, hr⟩, hf⟩, hB2⟩ := hB
      have hready : i ∈ Region.ready md ops listed := by simpa using hr
      simp only [wpQuiet] at hw
      obtain ⟨v, hy, hK⟩ : ∃ v, YieldsIf P ops C o v a ∧ wpTr P ops Q C t (a.put o.dst v) w := by
        by_cases hwant : Region.wanted o (yielded ops a.tmps) = true
        · rw [if_pos hwant] at hw
          obtain ⟨v, hv1, hv2⟩ := hw
          refine ⟨v, .inl ⟨hwant, fun W hW => ?_⟩, hv2⟩
          have h3 := hv1 W hW
          unfold Oper.quietAt at h3
          cases hr : (execOp a.eval o).run P W with
          | ok n w' =>
            obtain ⟨x, rfl⟩ := value_of hv hr
            rw [hr] at h3
            simp only [Oper.quietUpon] at h3
            rw [h3.1, h3.2]
          | halt x w' => rw [hr] at h3; simp only [Oper.quietUpon] at h3
        · rw [if_neg hwant] at hw
          exact ⟨undef, .inr ⟨by simpa using hwant, rfl⟩, hw⟩
      exact wpAnyH_first ho (Region.noSelect_spec hsel) (fun c a w h => absurd h (hQ c _ w)) n listed a w (Region.free_spec ho hf) hready hy hC (ih t _ _ w hB2 hC hK)
    | fork1 i t =>
      simp only [treeB, Bool.and_eq_true, decide_eq_true_eq] at hB
      refine ⟨fun h1 => (by rw [hB.1] at h1; cases h1), fun x hx => ?_⟩
      rw [hB.1] at hx
      obtain rfl : x = i := by simpa using hx
      exact op_case (fun a' w' hC' h' => ih t _ a' w' hB.2 hC' h') h
    | fork2 i t j u =>
      simp only [treeB, Bool.and_eq_true, decide_eq_true_eq] at hB
      refine ⟨fun h1 => (by rw [hB.1.1] at h1; cases h1), fun x hx => ?_⟩
      rw [hB.1.1] at hx
      have hx' : x = i ∨ x = j := by simpa using hx
      rcases hx' with rfl | rfl
      · exact op_case (fun a' w' hC' h' => ih t _ a' w' hB.1.2 hC' h') h.1
      · exact op_case (fun a' w' hC' h' => ih u _ a' w' hB.2 hC' h') h.2
    | fork3 i t j u k v =>
      simp only [treeB, Bool.and_eq_true, decide_eq_true_eq] at hB
      refine ⟨fun h1 => (by rw [hB.1.1.1] at h1; cases h1), fun x hx => ?_⟩
      rw [hB.1.1.1] at hx
      have hx' : x = i ∨ x = j ∨ x = k := by simpa using hx
      rcases hx' with rfl | rfl | rfl
      · exact op_case (fun a' w' hC' h' => ih t _ a' w' hB.1.1.2 hC' h') h.1
      · exact op_case (fun a' w' hC' h' => ih u _ a' w' hB.1.2 hC' h') h.2.1
      · exact op_case (fun a' w' hC' h' => ih v _ a' w' hB.2 hC' h') h.2.2

/-- The worlds in which all that lay ahead of the region lies as it did. -/
def Ahead (w W : World) : Prop := ∃ p : Regrown, W = grow (redrawn w p.d) p.os
theorem Ahead.below {w W : World} (h : Ahead w W) : Below w.heap.size w W := by obtain ⟨p, rfl⟩ := h; exact below_regrown _ _ _
theorem Ahead.of {w W : World} (h : Below w.heap.size w W) : Ahead w W := regrown_of_below h

/-- The region's law: 't' is the tree of the walks. -/
theorem wp_region_tree {id : Nat} {Q : Exit → Act → World → Prop} {a : Act} {w : World} {l : List Oper} (t : Tr) (hm : P.follows .mixedOrders = true)
    (hB : (Region.noSelect l.toArray && treeB .any l.toArray l.length t (Array.replicate l.length false)) = true)
    (h : ∀ W, Below w.heap.size w W → wpTr P l.toArray (NoPanic Q) (fun W => ∃ p : Regrown, W = grow (redrawn w p.d) p.os) t a W) : (Code.region id l.toArray true).wp P Q a w := by
  simp only [Bool.and_eq_true] at hB
  have hb : Below w.heap.size w { w with drawn := w.drawn + 1 } := ⟨rfl, rfl, rfl, Nat.le_refl _, fun _ _ => rfl⟩
  refine wp_region_noPanic (wp_region_any hm (wpAny_of_held (S := fun W => ∃ p : Regrown, W = grow (redrawn w p.d) p.os) _ _ _ _ ?_))
  have := wpAnyH_of_tree (P := P) (md := .any) (Q := NoPanic Q) (C := fun W => ∃ p : Regrown, W = grow (redrawn w p.d) p.os) hB.1 (fun c a w h => h) l.length t _ a { w with drawn := w.drawn + 1 } hB.2 (Ahead.of hb) (h _ hb)
  simpa using this

theorem tree_nil {a : Act} {w : World} (h : Q .normal a w) : wpTr P ops (NoPanic Q) C .nil a w := h

/-- From here on of the world only S is known. -/
theorem tree_letter {t : Tr} {a : Act} {w : World} {S : World → Prop} (h : ∀ W, S W → wpTr P ops Q C t a W) (hs : S w) : wpTr P ops Q C t a w := h w hs

/-- The operation that stores a vector of four integers. -/
theorem wpList_vstore {rest : List Oper} {o : Oper} {a : Act} {W w : World} {b n : Nat} {u0 u1 u2 u3 : Value} (hg : o.guard = none) (t : TypeId) (x y : Operand) (ho : o.op = .store t x y) (v0 v1 v2 v3 : Int)
    (hx : a.eval x = .pointer (some ⟨b, 0, none⟩)) (hy : a.eval y = .agg #[.int .i64 v0, .int .i64 v1, .int .i64 v2, .int .i64 v3]) (d0 : W.cell? ⟨b, 0, none⟩ = some u0) (d1 : W.cell? ⟨b, 1, none⟩ = some u1) (d2 : W.cell? ⟨b, 2, none⟩ = some u2) (d3 : W.cell? ⟨b, 3, none⟩ = some u3)
    (f : ∀ i, W.frozen? ⟨b, i, none⟩ = false) (BB : Below n w W) (hb : n ≤ b) (T : (P.info? t).map (·.size) = some 4)
    (h : ∀ W', Below n w W' → W'.cell? ⟨b, 0, none⟩ = some (.int .i64 v0) → W'.cell? ⟨b, 1, none⟩ = some (.int .i64 v1) → W'.cell? ⟨b, 2, none⟩ = some (.int .i64 v2) → W'.cell? ⟨b, 3, none⟩ = some (.int .i64 v3) →
      (∀ a : Addr, a.block ≠ b → W'.cell? a = W.cell? a) → (∀ a : Addr, W'.frozen? a = W.frozen? a) → wpList P ops Q rest (a.put o.dst undef) W') : wpList P ops Q (o :: rest) a W := by
  refine wpList_plain hg fun K hK => ?_
  have hc : ∀ j, j < 4 → (W.cell? ⟨b, j, none⟩).isSome = true := fun j hj => by
    match j, hj with
    | 0, _ => simp [d0]
    | 1, _ => simp [d1]
    | 2, _ => simp [d2]
    | 3, _ => simp [d3]
  have hs := run_storeCells_cells (P := P) b 0 [.int .i64 v0, .int .i64 v1, .int .i64 v2, .int .i64 v3] 0 W (fun j hj => by simpa using hc j (by simpa using hj)) (fun j _ => by simpa using f j) (by simp [Value.oneCell'])
  have hB : ∀ (vs : List Value) (o : Nat) (V : World), Below n w V → Below n w (V.setCells b o vs) := by
    intro vs
    induction vs with
    | nil => intro o V h; exact h
    | cons v r ih => intro o V h; exact ih (o + 1) _ (h.setCell (by exact hb) v)
  have hv : (storeVar t ⟨b, 0, none⟩ (.agg #[.int .i64 v0, .int .i64 v1, .int .i64 v2, .int .i64 v3])).run P W = .ok () (W.setCells b (0 + 0) [.int .i64 v0, .int .i64 v1, .int .i64 v2, .int .i64 v3]) := by
    cases hq : P.info? t with
    | none => simp [hq] at T
    | some i =>
      have hz : i.size = 4 := by simpa [hq] using T
      simpa [storeVar, sizeOf, typeInfo, hq, Value.cells, hz] using hs
  have hi := World.cell?_setCells_in b [.int .i64 v0, .int .i64 v1, .int .i64 v2, .int .i64 v3] 0 W (fun j hj => by simpa using hc j (by simpa using hj))
  unfold Oper.wp execOp
  simp only [ho, hx, hy, Instr.storeAt, Instr.sureAddr, Sem.run_bind, Sem.run_pure, Result.andThen_ok, hv]
  refine hK _ _ (h _ (hB _ _ _ BB) (hi 0 (by simp)) (hi 1 (by simp)) (hi 2 (by simp)) (hi 3 (by simp)) (fun a ha => World.cell?_setCells_out b _ _ _ _ (fun h => absurd h ha)) (fun a => World.frozen?_setCells b _ _ _ _))

theorem tree_read {i : Nat} {t : Tr} {a : Act} {w : World} {o : Oper} (ho : ops[i]? = some o) (h : wpQuiet P ops C (fun a' => wpTr P ops Q C t a' w) [o] a) : wpTr P ops Q C (.read i t) a w := ⟨o, ho, h⟩

theorem tree_one {i : Nat} {t : Tr} {a : Act} {w : World} {o : Oper} (ho : ops[i]? = some o) (h : wpList P ops (treeQ Q C (wpTr P ops Q C t)) [o] a w) : wpTr P ops Q C (.fork1 i t) a w := ⟨o, ho, h⟩

theorem tree_two {i j : Nat} {t u : Tr} {a : Act} {w : World} {o p : Oper} (ho : ops[i]? = some o) (hp : ops[j]? = some p) (h : wpList P ops (treeQ Q C (wpTr P ops Q C t)) [o] a w) (k : wpList P ops (treeQ Q C (wpTr P ops Q C u)) [p] a w) : wpTr P ops Q C (.fork2 i t j u) a w := ⟨⟨o, ho, h⟩, ⟨p, hp, k⟩⟩

theorem tree_three {i j k : Nat} {t u v : Tr} {a : Act} {w : World} {o p q : Oper} (ho : ops[i]? = some o) (hp : ops[j]? = some p) (hq : ops[k]? = some q) (h : wpList P ops (treeQ Q C (wpTr P ops Q C t)) [o] a w) (h2 : wpList P ops (treeQ Q C (wpTr P ops Q C u)) [p] a w) (h3 : wpList P ops (treeQ Q C (wpTr P ops Q C v)) [q] a w) : wpTr P ops Q C (.fork3 i t j u k v) a w := ⟨⟨o, ho, h⟩, ⟨p, hp, h2⟩, ⟨q, hq, h3⟩⟩

end
end Go.Proofs.Ytcjlgfadjedgbaa

/- A region that draws its order, whose reads are of cells that nothing in the region writes: the tree of walks (XTree) over a condition of one's own on the world. No program is named here. -/
namespace Go.Proofs.Ytcjlgfadjedgbaa
open Go.RowKit Go.Sort

section
variable {P : Program} {ops : Array Oper} {C : World → Prop}

/-- The region's law: 't' the tree of the walks, C what is asked of the world all the way. -/
theorem wp_region_treeC {id : Nat} {Q : Exit → Act → World → Prop} {a : Act} {w : World} {l : List Oper} (C : World → Prop) (t : Tr) (hm : P.follows .mixedOrders = true)
    (hB : (Region.noSelect l.toArray && treeB .any l.toArray l.length t (Array.replicate l.length false)) = true) (hC : ∀ W, Below w.heap.size w W → C W)
    (h : ∀ W, Below w.heap.size w W → wpTr P l.toArray (NoPanic Q) C t a W) : (Code.region id l.toArray true).wp P Q a w := by
  simp only [Bool.and_eq_true] at hB
  have hb : Below w.heap.size w { w with drawn := w.drawn + 1 } := ⟨rfl, rfl, rfl, Nat.le_refl _, fun _ _ => rfl⟩
  refine wp_region_noPanic (wp_region_any hm (wpAny_of_held (S := C) _ _ _ _ ?_))
  have := wpAnyH_of_tree (P := P) (md := .any) (Q := NoPanic Q) (C := C) hB.1 (fun c a w h => h) l.length t _ a { w with drawn := w.drawn + 1 } hB.2 (hC _ hb) (h _ hb)
  simpa using this

/-- A type whose values lie in n cells. -/
structure RowType (P : Program) (t : TypeId) (n : Nat) : Prop where
  agg : ∀ W, (isAgg t).run P W = .ok true W
  size : (P.info? t).map (·.size) = some n

/-- Four integers lie in block b. -/
def VecAt (W : World) (b : Nat) (x0 x1 x2 x3 : Int) : Prop :=
  W.cell? ⟨b, 0, none⟩ = some (.int .i64 x0) ∧ W.cell? ⟨b, 1, none⟩ = some (.int .i64 x1) ∧ W.cell? ⟨b, 2, none⟩ = some (.int .i64 x2) ∧ W.cell? ⟨b, 3, none⟩ = some (.int .i64 x3)

theorem VecAt.on {W V : World} {b : Nat} {x0 x1 x2 x3 : Int} (h : VecAt W b x0 x1 x2 x3) (B : Below W.heap.size W V) : VecAt V b x0 x1 x2 x3 :=
  ⟨cell_below B h.1, cell_below B h.2.1, cell_below B h.2.2.1, cell_below B h.2.2.2⟩
/-- .. in a block below B. -/
theorem VecAt.below {W V : World} {b B : Nat} {x0 x1 x2 x3 : Int} (h : VecAt W b x0 x1 x2 x3) (hb : b < B) (k : Below B W V) : VecAt V b x0 x1 x2 x3 :=
  ⟨(k.cell hb).trans h.1, (k.cell hb).trans h.2.1, (k.cell hb).trans h.2.2.1, (k.cell hb).trans h.2.2.2⟩

theorem vec_load {W : World} {b : Nat} {t : TypeId} {x0 x1 x2 x3 : Int} (T : RowType P t 4) (c : VecAt W b x0 x1 x2 x3) :
    (loadVar t ⟨b, 0, none⟩).run P W = .ok (.agg #[.int .i64 x0, .int .i64 x1, .int .i64 x2, .int .i64 x3]) W := by
  have h := run_loadCellsFrom (P := P) W ⟨b, 0, none⟩ (fun i => .int .i64 (if i = 0 then x0 else if i = 1 then x1 else if i = 2 then x2 else x3)) 4 0 #[] (fun j hj => by
    have hadd : (⟨b, 0, none⟩ : Addr).add (0 + j) = ⟨b, j, none⟩ := by unfold Addr.add; split <;> simp_all
    rw [hadd, Nat.zero_add]
    match j, hj with
    | 0, _ => exact c.1
    | 1, _ => exact c.2.1
    | 2, _ => exact c.2.2.1
    | 3, _ => exact c.2.2.2)
  have h' : (loadCellsFrom ⟨b, 0, none⟩ 0 4 #[]).run P W = .ok #[.int .i64 x0, .int .i64 x1, .int .i64 x2, .int .i64 x3] W := h
  have hi := T.size
  cases hq : P.info? t with
  | none => simp [hq] at hi
  | some i =>
    have hz : i.size = 4 := by simpa [hq] using hi
    simp [loadVar, Sem.run_bind, T.agg W, sizeOf, typeInfo, hq, hz, loadCells, h', Result.andThen]

/-- A whole vector loaded, in a region that draws its order. -/
theorem quiet_vload {K : Act → Prop} {o : Oper} {a : Act} {b : Nat} {x0 x1 x2 x3 : Int} (t : TypeId) (x : Operand) (ho : o.op = .load t x) (T : RowType P t 4)
    (c : ∀ W, C W → VecAt W b x0 x1 x2 x3) (hx : a.eval x = .pointer (some ⟨b, 0, none⟩)) (hk : K (a.put o.dst (.agg #[.int .i64 x0, .int .i64 x1, .int .i64 x2, .int .i64 x3]))) : o.quiet P a C K :=
  ⟨_, fun W hW => by
    unfold Oper.quietAt execOp
    simp only [ho, hx, Instr.loadAt, Instr.sureAddr, Sem.run_bind, Sem.run_pure, Result.andThen_ok, vec_load T (c W hW)]
    exact ⟨rfl, rfl⟩, hk⟩

/-- A value moved, assigned. -/
theorem quiet_move {K : Act → Prop} {o : Oper} {a : Act} (x : Operand) (ho : o.op = .move x) (hk : K (a.put o.dst (a.eval x))) : o.quiet P a C K :=
  ⟨_, fun W hW => by
    unfold Oper.quietAt execOp
    simp only [ho, Sem.run_pure]
    exact ⟨rfl, rfl⟩, hk⟩

theorem quiet_assign {K : Act → Prop} {o : Oper} {a : Act} (x : Operand) (ho : o.op = .assign x) (hk : K (a.put o.dst (a.eval x))) : o.quiet P a C K :=
  ⟨_, fun W hW => by
    unfold Oper.quietAt execOp
    simp only [ho, Sem.run_pure]
    exact ⟨rfl, rfl⟩, hk⟩

/-- A block of four integers that may be written. -/
def VBox (W : World) (b : Nat) (x0 x1 x2 x3 : Int) : Prop := VecAt W b x0 x1 x2 x3 ∧ ∀ i, W.frozen? ⟨b, i, none⟩ = false

theorem VBox.lt {W : World} {b : Nat} {x0 x1 x2 x3 : Int} (h : VBox W b x0 x1 x2 x3) : b < W.heap.size := block_lt_of_cell h.1.1
theorem VBox.below {W V : World} {b B : Nat} {x0 x1 x2 x3 : Int} (h : VBox W b x0 x1 x2 x3) (hb : b < B) (k : Below B W V) : VBox V b x0 x1 x2 x3 :=
  ⟨h.1.below hb k, fun i => (k.frozen (p := ⟨b, i, none⟩) hb).trans (h.2 i)⟩
theorem VBox.on {W V : World} {b : Nat} {x0 x1 x2 x3 : Int} (h : VBox W b x0 x1 x2 x3) (B : Below W.heap.size W V) : VBox V b x0 x1 x2 x3 := h.below h.lt B
theorem VBox.made (W : World) (x0 x1 x2 x3 : Int) (t : TypeId) : VBox (W.alloc (.cells #[.int .i64 x0, .int .i64 x1, .int .i64 x2, .int .i64 x3] t)) W.heap.size x0 x1 x2 x3 :=
  ⟨⟨by simp, by simp, by simp, by simp⟩, fun i => by rw [frozen?_alloc_cells]; unfold World.frozen?; simp⟩

/-- A vector stored into such a block: the others stay. -/
theorem wpList_vset {Q : Exit → Act → World → Prop} {rest : List Oper} {o : Oper} {a : Act} {W : World} {b : Nat} {u0 u1 u2 u3 : Int} (hg : o.guard = none) (t : TypeId) (x y : Operand) (ho : o.op = .store t x y) (v0 v1 v2 v3 : Int)
    (hx : a.eval x = .pointer (some ⟨b, 0, none⟩)) (hy : a.eval y = .agg #[.int .i64 v0, .int .i64 v1, .int .i64 v2, .int .i64 v3]) (V : VBox W b u0 u1 u2 u3) (T : (P.info? t).map (·.size) = some 4)
    (h : ∀ W', Below b W W' → VBox W' b v0 v1 v2 v3 → (∀ c y0 y1 y2 y3, c ≠ b → VBox W c y0 y1 y2 y3 → VBox W' c y0 y1 y2 y3) → (∀ a : Addr, a.block ≠ b → W'.cell? a = W.cell? a) → wpList P ops Q rest (a.put o.dst undef) W') : wpList P ops Q (o :: rest) a W :=
  wpList_vstore hg t x y ho v0 v1 v2 v3 hx hy V.1.1 V.1.2.1 V.1.2.2.1 V.1.2.2.2 V.2 (Below.refl b W) (Nat.le_refl b) T fun W' B e0 e1 e2 e3 hc hf =>
    h W' B ⟨⟨e0, e1, e2, e3⟩, fun i => (hf _).trans (V.2 i)⟩ (fun c _ _ _ _ hne k =>
      ⟨⟨(hc ⟨c, 0, none⟩ hne).trans k.1.1, (hc ⟨c, 1, none⟩ hne).trans k.1.2.1, (hc ⟨c, 2, none⟩ hne).trans k.1.2.2.1, (hc ⟨c, 3, none⟩ hne).trans k.1.2.2.2⟩, fun i => (hf _).trans (k.2 i)⟩) hc

end
end Go.Proofs.Ytcjlgfadjedgbaa

/- A region that draws its order and in which calls and new variables come up in very many orders: its states instead of its orders. 'rs' the reads, taken first; 'nds' the states (which of the other operations are done in each); 'nd' where each leads. No program is named here. -/
namespace Go.Proofs.Ytcjlgfadjedgbaa
open Go.RowKit Go.Sort

section
variable {P : Program} {ops : Array Oper} {Q : Exit → Act → World → Prop} {C : World → Prop} {md : Region.Mode}

theorem op_case' {i n : Nat} {l : Array Bool} {a : Act} {w : World} {K : Act → World → Prop} (ih : ∀ a' w', C w' → K a' w' → wpAnyH P md ops Q C n l a' w')
    (h : ∃ o, ops[i]? = some o ∧ wpList P ops (treeQ Q C K) [o] a w) : wpOp P ops Q i (fun a' w' => C w' ∧ wpAnyH P md ops Q C n l a' w') a w := by
  obtain ⟨o, ho, hw⟩ := h
  unfold wpOp
  simp only [ho]
  simp only [wpList] at hw
  by_cases hwant : Region.wanted o (yielded ops a.tmps) = true
  · rw [if_pos hwant] at hw ⊢
    refine hw.imp (fun h4 => ?_) (fun h4 => ⟨h4.1, by obtain ⟨a', w', h5⟩ := h4.2; exact ⟨a', w', h5⟩⟩)
    unfold Oper.wp at *
    generalize (execOp a.eval o).run P w = r at *
    cases r with
    | ok n w' =>
      cases n <;> simp only [Oper.upon] at h4 ⊢ <;>
        first
          | exact ⟨h4.1, ih _ _ h4.1 h4.2⟩
          | exact Calls.mono h4 (fun e w'' he => by
              cases e with
              | returned u => exact ⟨he.1, ih _ _ he.1 he.2⟩
              | panicked c => exact he
              | outgrown => obtain ⟨a', w', h5⟩ := he; exact ⟨a', w', h5⟩)
          | exact Rows.mono h4 (fun _ _ he => ⟨he.1, ih _ _ he.1 he.2⟩)
    | halt x w' => cases x <;> simp only [Oper.upon] at h4 ⊢ <;> exact h4
  · rw [if_neg hwant] at hw ⊢
    exact ⟨hw.1, ih _ _ hw.1 hw.2⟩

def setAll (l : Array Bool) (is : List Nat) : Array Bool := is.foldl (fun l i => l.setIfInBounds i true) l

def readsB (md : Region.Mode) (ops : Array Oper) : List Nat → Array Bool → Bool
  | [], _ => true
  | i :: r, l => (match ops[i]? with | some o => valueOp o | none => false) && (Region.ready md ops l).contains i && Region.free md ops l i && readsB md ops r (l.setIfInBounds i true)

/-- The reads, one behind the other. -/
def wpRd (P : Program) (ops : Array Oper) (C : World → Prop) (K : Act → Prop) : List Nat → Act → Prop
  | [], a => K a
  | i :: r, a => ∃ o, ops[i]? = some o ∧ wpQuiet P ops C (fun a' => wpRd P ops C K r a') [o] a

theorem wpAnyH_reads (hsel : Region.noSelect ops = true) (hQ : ∀ c a w, ¬ Q (.panic c) a w) : ∀ (rs : List Nat) (n : Nat) (listed : Array Bool) (a : Act) (w : World),
    readsB md ops rs listed = true → C w → wpRd P ops C (fun a' => wpAnyH P md ops Q C n (setAll listed rs) a' w) rs a → wpAnyH P md ops Q C (n + rs.length) listed a w := by
  intro rs
  induction rs with
  | nil => intro n listed a w _ _ h; exact h
  | cons i r ih =>
    intro n listed a w hB hC h
    obtain ⟨o, ho, hw⟩ := h
    simp only [readsB, ho, Bool.and_eq_true] at hB
    obtain ⟨⟨⟨hv, hr⟩, hf⟩, hB2⟩ := hB
    have hready : i ∈ Region.ready md ops listed := by simpa using hr
    simp only [wpQuiet] at hw
    obtain ⟨v, hy, hK⟩ : ∃ v, YieldsIf P ops C o v a ∧ wpRd P ops C (fun a' => wpAnyH P md ops Q C n (setAll listed (i :: r)) a' w) r (a.put o.dst v) := by
      by_cases hwant : Region.wanted o (yielded ops a.tmps) = true
      · rw [if_pos hwant] at hw
        obtain ⟨v, hv1, hv2⟩ := hw
        refine ⟨v, .inl ⟨hwant, fun W hW => ?_⟩, hv2⟩
        have h3 := hv1 W hW
        unfold Oper.quietAt at h3
        cases hr : (execOp a.eval o).run P W with
        | ok n w' =>
          obtain ⟨x, rfl⟩ := value_of hv hr
          rw [hr] at h3
          simp only [Oper.quietUpon] at h3
          rw [h3.1, h3.2]
        | halt x w' => rw [hr] at h3; simp only [Oper.quietUpon] at h3
      · rw [if_neg hwant] at hw
        exact ⟨undef, .inr ⟨by simpa using hwant, rfl⟩, hw⟩
    exact wpAnyH_first ho (Region.noSelect_spec hsel) (fun c a w h => absurd h (hQ c _ w)) (n + r.length) listed a w (Region.free_spec ho hf) hready hy hC (ih n _ _ w hB2 hC hK)

/-- The states: what is done in each, where each leads (the operation, the state behind it), and how many operations are left. -/
structure Dag where
  done : List (List Nat)
  next : List (List (Nat × Nat))
  left : List Nat

def Dag.B (D : Dag) (md : Region.Mode) (ops : Array Oper) (l : Array Bool) : Bool :=
  (List.range D.done.length).all fun k =>
    decide (Region.ready md ops (setAll l (D.done.getD k [])) = (D.next.getD k []).map (·.1)) &&
    (D.next.getD k []).all fun e => decide (e.2 < D.done.length) && decide (setAll l (D.done.getD e.2 []) = (setAll l (D.done.getD k [])).setIfInBounds e.1 true) && decide (D.left.getD e.2 0 + 1 = D.left.getD k 0)

theorem wpAnyH_dag {D : Dag} {l : Array Bool} {St : Nat → Act → World → Prop} (hB : D.B md ops l = true)
    (hob : ∀ k, k < D.done.length → ∀ a w, St k a w → (D.next.getD k [] = [] → Q .normal a w) ∧ ∀ e ∈ D.next.getD k [], ∃ o, ops[e.1]? = some o ∧ wpList P ops (treeQ Q C (St e.2)) [o] a w) :
    ∀ (n k : Nat) (a : Act) (w : World), k < D.done.length → D.left.getD k 0 = n → St k a w → wpAnyH P md ops Q C n (setAll l (D.done.getD k [])) a w := by
  intro n
  induction n with
  | zero =>
    intro k a w hk hn h
    have h1 := List.all_eq_true.1 hB k (List.mem_range.2 hk)
    simp only [Bool.and_eq_true, decide_eq_true_eq, List.all_eq_true] at h1
    have h2 : D.next.getD k [] = [] := by
      cases he : D.next.getD k [] with
      | nil => rfl
      | cons e r =>
        have := (h1.2 e (by rw [he]; simp)).2
        omega
    exact ⟨by rw [h1.1, h2]; rfl, (hob k hk a w h).1 h2⟩
  | succ n ih =>
    intro k a w hk hn h
    have h1 := List.all_eq_true.1 hB k (List.mem_range.2 hk)
    simp only [Bool.and_eq_true, decide_eq_true_eq, List.all_eq_true] at h1
    refine ⟨fun h3 => (hob k hk a w h).1 ?_, fun i hi => ?_⟩
    · rw [h1.1] at h3
      simpa using h3
    · rw [h1.1] at hi
      obtain ⟨e, he, rfl⟩ := List.mem_map.1 hi
      obtain ⟨⟨h4, h5⟩, h6⟩ := h1.2 e he
      refine op_case' (fun a' w' hC' h' => ?_) ((hob k hk a w h).2 e he)
      rw [← h5]
      exact ih e.2 a' w' h4 (by omega) h'

/-- The region's law. 'St k a0 a W': what is known in state k ('a0': the act when the region begins). -/
theorem wp_region_dag {id : Nat} {Q : Exit → Act → World → Prop} {a : Act} {w : World} {l : List Oper} (St : Nat → Act → Act → World → Prop) (C : World → Prop) (rs : List Nat) (D : Dag) (last : Nat) (hm : P.follows .mixedOrders = true)
    (hB : (Region.noSelect l.toArray && readsB .any l.toArray rs (Array.replicate l.length false) && D.B .any l.toArray (setAll (Array.replicate l.length false) rs) && decide (D.left.getD 0 0 + rs.length = l.length) && decide (D.done.getD 0 [] = []) && decide (0 < D.done.length)) = true)
    (hC : ∀ W, Below w.heap.size w W → C W)
    (h : ∀ W, Below w.heap.size w W → wpRd P l.toArray C (fun a' => St 0 a a' W) rs a)
    (hob : ∀ k, k < D.done.length → ∀ a' W, St k a a' W → (D.next.getD k [] = [] → k = last) ∧ ∀ e ∈ D.next.getD k [], ∃ o, l.toArray[e.1]? = some o ∧ wpList P l.toArray (treeQ (NoPanic fun x a' W' => x = .normal ∧ St last a a' W') C (St e.2 a)) [o] a' W)
    (rest : ∀ a' W', St last a a' W' → Q .normal a' W') : (Code.region id l.toArray true).wp P Q a w := by
  simp only [Bool.and_eq_true, decide_eq_true_eq] at hB
  obtain ⟨⟨⟨⟨⟨h1, h2⟩, h3⟩, h4⟩, h5⟩, h6⟩ := hB
  have hb : Below w.heap.size w { w with drawn := w.drawn + 1 } := ⟨rfl, rfl, rfl, Nat.le_refl _, fun _ _ => rfl⟩
  refine Code.wp_mono (fun e a' W' k => by obtain ⟨rfl, hF⟩ := k; exact rest a' W' hF) (Q := fun x a' W' => x = .normal ∧ St last a a' W') ?_
  refine wp_region_noPanic (wp_region_any hm (wpAny_of_held (S := C) _ _ _ _ ?_))
  have hd := fun a' W (k : St 0 a a' W) => wpAnyH_dag (P := P) (md := .any) (Q := NoPanic fun x a' W' => x = .normal ∧ St last a a' W') (C := C) (St := fun k => St k a) h3
    (fun k hk a' W hs => ⟨fun hn => by have := (hob k hk a' W hs).1 hn; subst this; exact ⟨rfl, hs⟩, (hob k hk a' W hs).2⟩) (D.left.getD 0 0) 0 a' W h6 rfl k
  have hr := wpAnyH_reads (P := P) (md := .any) (Q := NoPanic fun x a' W' => x = .normal ∧ St last a a' W') (C := C) h1 (fun c a w h => h) rs (D.left.getD 0 0) (Array.replicate l.length false) a { w with drawn := w.drawn + 1 } h2 (hC _ hb) (by
    have hh := h _ hb
    have mono : ∀ (rs : List Nat) (b : Act) (K K' : Act → Prop), (∀ b, K b → K' b) → wpRd P l.toArray C K rs b → wpRd P l.toArray C K' rs b := by
      intro rs
      induction rs with
      | nil => intro b K K' hk h; exact hk _ h
      | cons i r ih =>
        intro b K K' hk h
        obtain ⟨o, ho, hw⟩ := h
        refine ⟨o, ho, ?_⟩
        simp only [wpQuiet] at hw ⊢
        split
        · rename_i hwant
          rw [if_pos hwant] at hw
          obtain ⟨v, h1, h2⟩ := hw
          exact ⟨v, h1, ih _ _ _ hk h2⟩
        · rename_i hwant
          rw [if_neg hwant] at hw
          exact ih _ _ _ hk hw
    refine mono rs a _ _ (fun b hb' => ?_) hh
    have := hd b _ hb'
    rw [h5] at this
    exact this)
  rw [h4] at hr
  simpa using hr
end

section
variable {P : Program} {ops : Array Oper} {Q : Exit → Act → World → Prop} {rest : List Oper} {o : Oper} {a : Act} {W : World}

/-- 'min(x, y)' of ints. -/
theorem wpList_min (hg : o.guard = none) (x y : Operand) (ts : Array TypeId) (ho : o.op = .call { callee := .builtin .min, args := #[x, y], argTypes := ts }) {u v z : Int} (hx : a.eval x = .int .i64 u) (hy : a.eval y = .int .i64 v) (hz : (if v < u then v else u) = z)
    (H : wpList P ops Q rest (a.put o.dst (.int .i64 z)) W) : wpList P ops Q (o :: rest) a W := by
  refine wpList_plain hg fun K hK => ?_
  unfold Oper.wp execOp
  have e : (Builtin.min_ ts o.type #[.int .i64 u, .int .i64 v]).run P W = .ok (.int .i64 z) W := by simp [Builtin.min_, Builtin.min2, hz]
  simp only [ho, resolve, invoke, builtin, Sem.run_bind, Sem.run_pure, Result.andThen_ok, List.map_toArray, List.map_cons, List.map_nil, hx, hy]
  rw [e]
  exact hK _ _ H
end

theorem rd_step {P : Program} {ops : Array Oper} {C : World → Prop} {K : Act → Prop} {i : Nat} {r : List Nat} {a : Act} {o : Oper} (ho : ops[i]? = some o) (h : wpQuiet P ops C (fun a' => wpRd P ops C K r a') [o] a) : wpRd P ops C K (i :: r) a := ⟨o, ho, h⟩

end Go.Proofs.Ytcjlgfadjedgbaa
