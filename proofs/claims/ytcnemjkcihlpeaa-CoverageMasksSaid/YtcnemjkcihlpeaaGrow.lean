/- A region that draws its order and holds calls that make memory: one walk serves every order. The operations that only read are taken as soon as they may come up, in the order that is given ('ord'); a call is met when nothing else may come up. What a call returns may hang on the world. No program is named here. -/
import Derived.OrdersHeld
import Derived.Deep.RegionHeld3
import Derived.Lib.QuietBelow
import Derived.BigQuiet
namespace Go.Proofs.Ytcnemjkcihlpeaa
set_option linter.unusedSimpArgs false
open Go.RowKit Go.Sort

section
variable {P : Program} {ops : Array Oper} {md : Region.Mode} {Q : Exit → Act → World → Prop}

/-- Of what lay nothing has changed; blocks may have been laid, draws made. -/
def Grows (w W : World) : Prop := ∃ p : Regrown, W = grow (redrawn w p.d) p.os
theorem Grows.below {w W : World} (h : Grows w W) : Below w.heap.size w W := by obtain ⟨p, rfl⟩ := h; exact below_regrown _ _ _
theorem Grows.of {w W : World} (h : Below w.heap.size w W) : Grows w W := regrown_of_below h
theorem Grows.refl (w : World) : Grows w w := Grows.of (Below.refl _ _)
theorem Grows.trans {w W V : World} (h : Grows w W) (k : Grows W V) : Grows w V := Grows.of (h.below.trans (k.below.mono h.below.size))

/-- What is held of the worlds to come may be more. -/
theorem wpAnyH_more {S S' : World → Prop} (hS : ∀ w, S w → S' w) : ∀ (fuel : Nat) (listed : Array Bool) (a : Act) (w : World), wpAnyH P md ops Q S fuel listed a w → wpAnyH P md ops Q S' fuel listed a w
  | 0, _, _, _, h => h
  | n + 1, _, _, _, h => ⟨h.1, fun i hi => wpOp_mono (fun _ _ k => ⟨hS _ k.1, wpAnyH_more hS n _ _ _ k.2⟩) (h.2 i hi)⟩

/-- An operation that, if it ends, yields a value: no call, no store. -/
def valueOp (o : Oper) : Bool :=
  match o.op with
  | .move _ | .assign _ | .nilCheck _ | .pick .. | .build .. | .load .. | .binOp .. | .unOp .. | .convert .. | .fieldAddr .. | .field .. | .indexAddr .. | .index .. | .slice .. | .makeFunc .. => true
  | .call c => match c.callee with | .builtin .len => true | .builtin .cap => true | .builtin .min => true | .builtin .max => true | _ => false
  | _ => false

theorem value_v {α : Type} {s : Sem α} {f : α → Value} {w w' : World} {n : Next} (hr : (do let x ← s; pure (Next.value (f x)) : Sem Next).run P w = .ok n w') : ∃ x, n = .value x := by
  rw [Sem.run_bind] at hr
  cases h : s.run P w with
  | ok x w1 => rw [h] at hr; simp [Result.andThen] at hr; exact ⟨_, hr.1.symm⟩
  | halt x w1 => rw [h] at hr; simp [Result.andThen] at hr

theorem nil_value {o : Oper} {x : Operand} {ρ : Operand → Value} {w w' : World} {n : Next} (ho : o.op = .nilCheck x) (hr : (execOp ρ o).run P w = .ok n w') : ∃ x, n = .value x := by
  unfold execOp at hr
  simp only [ho] at hr
  have key : ∀ (s : Sem Unit) (y : Value), (do s; pure (Next.value y) : Sem Next).run P w = .ok n w' → ∃ x, n = .value x := fun s y h => by
    rw [Sem.run_bind] at h
    cases h2 : s.run P w with
    | ok x w1 => rw [h2] at h; simp at h; exact ⟨_, h.1.symm⟩
    | halt x w1 => rw [h2] at h; simp at h
  split at hr
  all_goals try (simp at hr; exact ⟨_, hr.1.symm⟩)
  all_goals try (unfold runtimePanic at hr; cases hr; done)
  split at hr
  all_goals try (simp at hr; exact ⟨_, hr.1.symm⟩)
  all_goals try (unfold runtimePanic at hr; cases hr; done)
  have fin : ∀ {y : Value} {w1 : World}, (pure (Next.value y) : Sem Next).run P w1 = .ok n w' → ∃ x, n = .value x := fun h => by
    rw [Sem.run_pure] at h
    injection h with h _
    exact ⟨_, h.symm⟩
  have nxt : ∀ {β : Type} {s : Sem β} {f : β → Sem Next} {w0 : World}, (s >>= f).run P w0 = .ok n w' → ∃ x w2, (f x).run P w2 = .ok n w' := fun {β s f w0} h => by
    rw [Sem.run_bind] at h
    cases h2 : s.run P w0 with
    | ok x w1 => rw [h2] at h; exact ⟨x, w1, h⟩
    | halt x w1 => rw [h2] at h; simp at h
  repeat (first | exact fin hr | (split at hr) | (obtain ⟨_, _, hr⟩ := nxt hr) | (cases hr; done))

theorem value_of {o : Oper} {ρ : Operand → Value} {w w' : World} {n : Next} (h : valueOp o = true) (hr : (execOp ρ o).run P w = .ok n w') : ∃ x, n = .value x := by
  unfold valueOp at h
  cases hq : (match o.op with | .nilCheck _ => true | _ => false) with
  | true =>
    split at hq
    · rename_i heq
      exact nil_value heq hr
    · cases hq
  | false =>
  unfold execOp at hr
  split at h
  all_goals first
    | (cases h; done)
    | skip
  all_goals try (rename_i heq; simp only [heq] at hq; cases hq; done)
  all_goals try (rename_i heq; simp only [heq] at hr)
  all_goals first
    | exact value_v (f := fun x => x) hr
    | exact value_v hr
    | (simp at hr; exact ⟨_, hr.1.symm⟩)
    | skip
  rename_i c hc
  split at h
  all_goals first
    | (cases h; done)
    | (rename_i hb; simp [resolve, hb, invoke] at hr; exact value_v (f := fun x => x) hr)

/-! ### the walk -/

/-- Behind one call: what lay lies, and the walk goes on. -/
def growQ (Q : Exit → Act → World → Prop) (w : World) (N : Act → World → Prop) : Exit → Act → World → Prop
  | .normal, a, w' => Grows w w' ∧ N a w'
  | e, a, w' => Q e a w'

def wpGrow (P : Program) (ops : Array Oper) (Q : Exit → Act → World → Prop) : List Nat → Act → World → Prop
  | [], a, w => Q .normal a w
  | i :: rest, a, w => ∃ o, ops[i]? = some o ∧
    if valueOp o = true then wpQuiet P ops (fun W => ∃ p : Regrown, W = grow (redrawn w p.d) p.os) (fun a' => wpGrow P ops Q rest a' w) [o] a
    else wpList P ops (growQ Q w (wpGrow P ops Q rest)) [o] a w

theorem grow_read {i : Nat} {rest : List Nat} {a : Act} {w : World} {o : Oper} (ho : ops[i]? = some o) (hv : valueOp o = true)
    (h : wpQuiet P ops (fun W => ∃ p : Regrown, W = grow (redrawn w p.d) p.os) (fun a' => wpGrow P ops Q rest a' w) [o] a) : wpGrow P ops Q (i :: rest) a w :=
  ⟨o, ho, by rw [if_pos hv]; exact h⟩
theorem grow_call {i : Nat} {rest : List Nat} {a : Act} {w : World} {o : Oper} (ho : ops[i]? = some o) (hv : valueOp o = false)
    (h : wpList P ops (growQ Q w (wpGrow P ops Q rest)) [o] a w) : wpGrow P ops Q (i :: rest) a w :=
  ⟨o, ho, by rw [if_neg (by simp [hv])]; exact h⟩

theorem grow_nil {a : Act} {w : World} (h : Q .normal a w) : wpGrow P ops (NoPanic Q) [] a w := h

/-- Each operation of the order may come up when it is its turn: one that reads ahead of all that do not wait for it, any other when nothing else may come up. -/
def growB (md : Region.Mode) (ops : Array Oper) : List Nat → Array Bool → Bool
  | [], listed => (Region.ready md ops listed).isEmpty
  | i :: rest, listed => (match ops[i]? with
    | some o => if valueOp o then (Region.ready md ops listed).contains i && Region.free md ops listed i else decide (Region.ready md ops listed = [i])
    | none => false) && growB md ops rest (listed.setIfInBounds i true)

theorem wpAnyH_of_grow (hsel : Region.noSelect ops = true) (hQ : ∀ c a w, ¬ Q (.panic c) a w) : ∀ (ord : List Nat) (listed : Array Bool) (a : Act) (w : World),
    growB md ops ord listed = true → wpGrow P ops Q ord a w → wpAnyH P md ops Q (Grows w) ord.length listed a w
  | [], _, _, _, hB, h => ⟨by simpa [growB] using hB, h⟩
  | i :: rest, listed, a, w, hB, h => by
    obtain ⟨o, ho, hw⟩ := h
    simp only [growB, ho, Bool.and_eq_true] at hB
    obtain ⟨hB1, hB2⟩ := hB
    by_cases hv : valueOp o = true
    · rw [if_pos hv] at hw
      simp only [hv, if_true, Bool.and_eq_true] at hB1
      have hready : i ∈ Region.ready md ops listed := by simpa using hB1.1
      simp only [wpQuiet] at hw
      obtain ⟨v, hy, hK⟩ : ∃ v, YieldsIf P ops (Grows w) o v a ∧ wpGrow P ops Q rest (a.put o.dst v) w := by
        by_cases hwant : Region.wanted o (yielded ops a.tmps) = true
        · rw [if_pos hwant] at hw
          obtain ⟨v, hv1, hv2⟩ := hw
          refine ⟨v, .inl ⟨hwant, fun W hW => ?_⟩, hv2⟩
          have h3 := hv1 W hW
          unfold Oper.quietAt at h3
          cases hr : (execOp a.eval o).run P W with
          | ok n w' =>
            obtain ⟨x, rfl⟩ := value_of hv hr
            rw [hr] at h3
            simp only [Oper.quietUpon] at h3
            rw [h3.1, h3.2]
          | halt x w' => rw [hr] at h3; simp only [Oper.quietUpon] at h3
        · rw [if_neg hwant] at hw
          exact ⟨undef, .inr ⟨by simpa using hwant, rfl⟩, hw⟩
      exact wpAnyH_first ho (Region.noSelect_spec hsel) (fun c a w h => absurd h (hQ c _ w)) rest.length listed a w (Region.free_spec ho hB1.2) hready hy (Grows.refl w)
        (wpAnyH_of_grow hsel hQ rest _ _ w hB2 hK)
    · rw [if_neg hv] at hw
      simp only [hv] at hB1
      have hB1' : Region.ready md ops listed = [i] := by simpa using hB1
      refine ⟨fun h1 => (by rw [hB1'] at h1; cases h1), fun j hj => ?_⟩
      rw [hB1'] at hj
      obtain rfl : j = i := by simpa using hj
      unfold wpOp
      simp only [ho]
      simp only [wpList] at hw
      by_cases hwant : Region.wanted o (yielded ops a.tmps) = true
      · rw [if_pos hwant] at hw ⊢
        refine hw.imp (fun h4 => ?_) (fun h4 => ⟨h4.1, by obtain ⟨a', w', h5⟩ := h4.2; exact ⟨a', w', h5⟩⟩)
        unfold Oper.wp at *
        generalize (execOp a.eval o).run P w = r at *
        cases r with
        | ok n w' =>
          cases n <;> simp only [Oper.upon] at h4 ⊢ <;>
            first
              | exact ⟨h4.1, wpAnyH_more (fun _ k => h4.1.trans k) _ _ _ _ (wpAnyH_of_grow hsel hQ rest _ _ _ hB2 h4.2)⟩
              | exact Calls.mono h4 (fun e w'' he => by
                  cases e with
                  | returned u => exact ⟨he.1, wpAnyH_more (fun _ k => he.1.trans k) _ _ _ _ (wpAnyH_of_grow hsel hQ rest _ _ _ hB2 he.2)⟩
                  | panicked c => exact he
                  | outgrown => obtain ⟨a', w', h5⟩ := he; exact ⟨a', w', h5⟩)
              | exact Rows.mono h4 (fun _ _ he => ⟨he.1, wpAnyH_more (fun _ k => he.1.trans k) _ _ _ _ (wpAnyH_of_grow hsel hQ rest _ _ _ hB2 he.2)⟩)
        | halt x w' => cases x <;> simp only [Oper.upon] at h4 ⊢ <;> exact h4
      · rw [if_neg hwant] at hw ⊢
        exact ⟨hw.1, wpAnyH_of_grow hsel hQ rest _ _ _ hB2 hw.2⟩

/-- The region's law: 'ord' is the order of the walk. -/
theorem wp_region_grow {id : Nat} {Q : Exit → Act → World → Prop} {a : Act} {w : World} {l : List Oper} (ord : List Nat) (hm : P.follows .mixedOrders = true)
    (hB : (Region.noSelect l.toArray && decide (ord.length = l.length) && growB .any l.toArray ord (Array.replicate l.length false)) = true)
    (h : ∀ W, Below w.heap.size w W → wpGrow P l.toArray (NoPanic Q) ord a W) : (Code.region id l.toArray true).wp P Q a w := by
  simp only [Bool.and_eq_true, decide_eq_true_eq] at hB
  obtain ⟨⟨hs, hl⟩, hg⟩ := hB
  refine wp_region_noPanic (wp_region_any hm (wpAny_of_held (S := Grows { w with drawn := w.drawn + 1 }) _ _ _ _ ?_))
  have := wpAnyH_of_grow (P := P) (md := .any) (Q := NoPanic Q) hs (fun c a w h => h) ord _ a { w with drawn := w.drawn + 1 } hg (h _ ⟨rfl, rfl, rfl, Nat.le_refl _, fun _ _ => rfl⟩)
  rw [hl] at this
  simpa using this

end
end Go.Proofs.Ytcnemjkcihlpeaa
