/- Slices that read as lists of strings. No function of a program is named here. -/
import Derived.Test.YtnhnbblplnhmlaaGreatDoorStr
namespace Go.Proofs.YtnhnbblplnhmlaaGreatDoor
set_option linter.unusedSimpArgs false
open Go.ChangeShapes Go.WideShapes Go.RowKit

/-- n cells from address A on, in a block below B, hold the strings of l. -/
def RdS (w : World) (B : Nat) (A : Option Addr) (n : Nat) (l : List ByteArray) : Prop :=
  l.length = n ∧ (0 < n → ∃ b off, A = some ⟨b, off, none⟩ ∧ b < B ∧ ∀ j s, l[j]? = some s → w.cell? ⟨b, off + j, none⟩ = some (.string s))

section
variable {w w' : World} {B B' n : Nat} {A : Option Addr} {l : List ByteArray}

theorem RdS.len (h : RdS w B A n l) : l.length = n := h.1

theorem RdS.below (h : RdS w B A n l) (hb : Below B w w') : RdS w' B A n l :=
  ⟨h.1, fun hn => by
    obtain ⟨b, off, e, hlt, hc⟩ := h.2 hn
    exact ⟨b, off, e, hlt, fun j x hx => (hb.cell (p := ⟨b, off + j, none⟩) hlt).trans (hc j x hx)⟩⟩

theorem RdS.more (h : RdS w B A n l) (hB : B ≤ B') : RdS w B' A n l :=
  ⟨h.1, fun hn => by
    obtain ⟨b, off, e, hlt, hc⟩ := h.2 hn
    exact ⟨b, off, e, by omega, hc⟩⟩

theorem RdS.on (h : RdS w w.heap.size A n l) (hb : Below w.heap.size w w') : RdS w' w'.heap.size A n l := (h.below hb).more hb.size

theorem RdS.nil (w : World) (B : Nat) (A : Option Addr) : RdS w B A 0 [] := ⟨rfl, fun h => absurd h (by omega)⟩

theorem RdS.at_ {j : Nat} (h : RdS w B A n l) (hj : j < n) : ∃ b off s, A = some ⟨b, off, none⟩ ∧ b < B ∧ w.cell? ⟨b, off + j, none⟩ = some (.string s) ∧ Hid (l[j]? = some s) := by
  obtain ⟨b, off, e, hlt, hc⟩ := h.2 (by omega)
  have hl : j < l.length := by rw [h.1]; exact hj
  have hx := List.getElem?_eq_getElem hl
  exact ⟨b, off, l[j], e, hlt, hc j _ hx, Lib.hid hx⟩
end

theorem drop_cut {α : Type} {l : List α} {k : Nat} {x : α} (h : l[k]? = some x) : l.drop k = x :: l.drop (k + 1) := by
  obtain ⟨hk, rfl⟩ := List.getElem?_eq_some_iff.1 h
  exact List.drop_eq_getElem_cons hk

end Go.Proofs.YtnhnbblplnhmlaaGreatDoor
