/- What a frame hands on of a slice of strings that came in. No function of a program is named here. -/
import Derived.Test.YtjlgekfgldmkhaaStrs
import Derived.SliceStrings
import Derived.OpenShut
namespace Go.Proofs.Ytjlgekfgldmkhaa
open Go.ChangeShapes Go.WideShapes Go.RowKit

theorem strs_at {w : World} {a : Addr} {ss : List ByteArray} (h : ∀ i, i < ss.length → w.cell? (a.add i) = some (.string (ss.getD i ByteArray.empty))) (hp : 0 < ss.length) :
    ∃ b off, a = ⟨b, off, none⟩ ∧ ∀ j, j < ss.length → w.cell? ⟨b, off + j, none⟩ = some (.string (ss.getD j ByteArray.empty)) := by
  obtain ⟨b, off, spot⟩ := a
  have hspot : spot = none := by simpa [Addr.add] using World.cell?_spot (h 0 hp)
  subst hspot
  exact ⟨b, off, rfl, fun j hj => by rw [← add_plain]; exact h j hj⟩

/-- A slice of strings that came in; its data are its strings. -/
theorem strs_open {H : Type} {enc : TypeId × Value → H} {P : Program} {w : World} {base : Nat} {spare : Nat → Bool} {held : Bool} {t e : TypeId} {fuel : Nat} {v : Value} {x : DataW H × List MemPlace}
    (ht : P.underlying t = some (.slice e)) (he : P.underlying e = some .string) (hc : P.cellsOf e = 1) (h : DataW.trod enc P w base spare held fuel t [v] = some x) :
    ∃ A n c l, v = .slice A n c ∧ RdS w w.heap.size A n l ∧ n ≤ c ∧ c ≤ maxLen ∧ (∀ s ∈ l, s.size ≤ maxLen) ∧ (x.1 = .nil ∧ n = 0 ∨ ∃ sp, x.1 = .slice (strs l) sp) := by
  rcases open_strings ht he hc h with ⟨h1, hx⟩ | ⟨a, len, cap, ss, h1, _, hl, hcap, hz, hx, hcell, hsz⟩
  · simp only [List.cons.injEq, and_true] at h1
    exact ⟨none, 0, 0, [], h1, RdS.nil _ _ _, Nat.le_refl _, Nat.zero_le _, by simp, .inl ⟨by rw [hx], rfl⟩⟩
  · simp only [List.cons.injEq, and_true] at h1
    subst h1
    have hle : len ≤ ss.length := by rw [hz]; split <;> omega
    refine ⟨some a, len, cap, ss.take len, rfl, ⟨by simp; omega, fun hn => ?_⟩, hl, hcap, fun s hs => hsz s (List.mem_of_mem_take hs), .inr ⟨_, by rw [hx]⟩⟩
    obtain ⟨b, off, rfl, hat⟩ := strs_at hcell (by omega)
    refine ⟨b, off, rfl, World.block_lt_of_cell? w _ (hat 0 (by omega)), fun j y hy => ?_⟩
    rw [List.getElem?_take] at hy
    split at hy
    · rw [hat j (by omega), List.getD, hy]
      rfl
    · cases hy

end Go.Proofs.Ytjlgekfgldmkhaa
