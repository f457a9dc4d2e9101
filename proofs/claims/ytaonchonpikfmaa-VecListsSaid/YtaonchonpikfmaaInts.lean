/- What a frame hands on of a slice of integers: where its numbers lie. No program is named here. -/
import Derived.OpenShut
import Derived.ChangeSlices
namespace Go.Proofs.Ytaonchonpikfmaa
open Go.ChangeShapes Go.WideShapes Go.RowKit

/-- v is a slice of integers: empty, or its numbers g 0 .. lie in block b from 'off' on. -/
def IntsAt (w : World) (v : Value) : Prop :=
  (∃ p cap, v = .slice p 0 cap) ∨ ∃ b off n cap, ∃ g : Nat → Int, v = .slice (some ⟨b, off, none⟩) n cap ∧ b < w.heap.size ∧ ∀ j, j < n → w.cell? ⟨b, off + j, none⟩ = some (.int .i64 (g j))

theorem intsAt {H : Type} {enc : TypeId × Value → H} {P : Program} {w : World} {base : Nat} {spare : Nat → Bool} {held : Bool} {t e : TypeId} {fuel : Nat} {v : Value} {x : DataW H × List MemPlace}
    (ht : P.underlying t = some (.slice e)) (he : P.underlying e = some (.int .i64)) (hc : P.cellsOf e = 1) (h : DataW.trod enc P w base spare held fuel t [v] = some x) : IntsAt w v := by
  rcases open_ints ht he hc h with ⟨h1, _⟩ | ⟨a, len, cap, zs, h1, _, hl, _, hz, _, hcell, _⟩
  · simp only [List.cons.injEq, and_true] at h1
    exact .inl ⟨none, 0, h1⟩
  · simp only [List.cons.injEq, and_true] at h1
    subst h1
    have hle : len ≤ zs.length := by rw [hz]; split <;> omega
    by_cases h0 : len = 0
    · subst h0; exact .inl ⟨_, _, rfl⟩
    · obtain ⟨b, off, rfl, hat⟩ := ints_at hcell (by omega)
      exact .inr ⟨b, off, len, cap, fun j => zs.getD j 0, rfl, World.block_lt_of_cell? w _ (hat 0 (by omega)), fun j hj => hat j (by omega)⟩

end Go.Proofs.Ytaonchonpikfmaa
