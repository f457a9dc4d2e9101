/- What a frame hands on of a slice of colors. -/
import Derived.Test.YtadndipdkdgkbaaRS2
import Derived.Test.YtadndipdkdgkbaaOpenE
namespace Go.Proofs.Ytadndipdkdgkbaa
set_option linter.unusedSimpArgs false
open Go.RowKit Go.ChangeShapes Go.WideShapes Go.Joins Go.Deep
set_option linter.unusedVariables false

section
variable {H : Type} {enc : TypeId × Value → H} {w : World} {base : Nat} {spare : Nat → Bool} {held : Bool}

theorem open_cols {r : Reach} {b0 : Nat} {v : Value} {d : DataW H} {p : List MemPlace} (hv : Value.okWide Try.prog w r b0 22 v) (h : DataW.Trod enc Try.prog w base spare held 22 v d p) :
    ∃ A n c l, v = .slice A n c ∧ RdE cov4 4 w w.heap.size A n l ∧ n ≤ 9223372036854775807 := by
  obtain ⟨A, n, c, rfl⟩ := okWide_slice Try.underlying22 hv
  obtain ⟨fuel, hf⟩ := h
  obtain ⟨A, n, c, l, hv, R, _, h1, h2, _⟩ := open_E (P := Try.prog) coEnc (fun _ => True) Try.underlying22 (by kernel_rfl) (fun cs m y hy => by
    obtain ⟨z0, z1, z2, z3, rfl⟩ := elem4 Try.underlying24 (by kernel_rfl) (by kernel_rfl) ⟨Try.underlying3, Try.underlying3, Try.underlying3, Try.underlying3⟩ cs m y hy
    exact ⟨⟨z0, z1, z2, z3⟩, rfl, trivial⟩) hf
  exact ⟨A, n, c, l, hv, R, by simp only [maxLen] at h2; omega⟩

end

end Go.Proofs.Ytadndipdkdgkbaa
