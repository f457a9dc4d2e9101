/- The first cells of a block stored whole. No function of a program is named here. -/
import Derived.Test.YtcnemjkcihlpeaaEBox
import Derived.Test.YtcnemjkcihlpeaaRowE
namespace Go.Proofs.Ytcnemjkcihlpeaa
set_option linter.unusedSimpArgs false
open Go.RowKit Go.Sort Go.ChangeShapes Go.WideShapes
set_option linter.unusedVariables false

section
variable {P : Program} {ops : Array Oper} {Q : Exit → Act → World → Prop} {rest : List Oper} {a : Act} {W : World} {b : Nat}

/-- The first cells of a block stored whole, the others stay. -/
theorem esetRL {dst : Option Tmp} {ty t : TypeId} {x y : Operand} {pos : String} {after : Array Edge} {us vs rs : List Value} {k : Nat} (T : RowK P t k) (hu : us.length = k) (hv : vs.length = k) (K : EBox W b (us ++ rs)) (hx : a.eval x = .pointer (some ⟨b, 0, none⟩)) (hy : a.eval y = .agg vs.toArray) (h1 : ∀ v ∈ vs, v.oneCell' = true)
    (H : ∀ V, EBox V b (vs ++ rs) → Below b W V → (∀ a : Addr, a.block ≠ b → V.cell? a = W.cell? a) → (∀ a : Addr, V.frozen? a = W.frozen? a) → wpList P ops Q rest (a.put dst undef) V) :
    wpList P ops Q ({ dst := dst, op := .store t x y, type := ty, pos := pos, after := after, guard := none } :: rest) a W := by
  have ht : W.there b 0 vs.length := by
    intro j hj
    refine ⟨?_, K.2 _⟩
    have hj' : j < (us ++ rs).length := by rw [List.length_append]; omega
    rw [K.1 j _ (List.getElem?_eq_getElem hj')]
    rfl
  have hB : ∀ (vs : List Value) (o : Nat) (V : World), Below b W V → Below b W (V.setCells b o vs) := by
    intro vs
    induction vs with
    | nil => intro o V h; exact h
    | cons v r ih => intro o V h; exact ih (o + 1) _ (h.setCell (Nat.le_refl _) v)
  refine wpList_store_mid rfl t x y rfl b 0 vs.toArray hx hy (by simpa using ht) (by rw [T.size]; simp [hv]) (by simpa using h1) ?_
  have hr := World.rangeAt_setCells_same W b 0 vs ht
  refine H _ ⟨fun j v hj => ?_, fun i => ?_⟩ (by simpa using hB vs 0 W (Below.refl _ _)) (fun a ha => ?_) (fun a => ?_)
  · rw [Nat.zero_add]
    by_cases hlt : j < vs.length
    · rw [List.getElem?_append_left hlt] at hj
      have := hr j v hj
      rwa [Nat.zero_add] at this
    · rw [List.getElem?_append_right (by omega)] at hj
      rw [World.cell?_setCells_out b _ _ _ _ (fun _ => by simp; omega)]
      refine K.cell ?_
      rw [List.getElem?_append_right (by omega), hu, ← hv]
      exact hj
  · rw [World.frozen?_setCells]; exact K.2 i
  · exact World.cell?_setCells_out b _ _ _ _ (fun h => absurd h ha)
  · exact World.frozen?_setCells b _ _ _ _
end

end Go.Proofs.Ytcnemjkcihlpeaa
