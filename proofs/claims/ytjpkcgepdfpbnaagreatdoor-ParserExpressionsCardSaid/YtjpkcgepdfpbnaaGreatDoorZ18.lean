/- example; what a slice of tokens reads as, cell by cell. -/
import Derived.Test.YtjpkcgepdfpbnaaGreatDoorZ11
namespace Go.Proofs.YtjpkcgepdfpbnaaGreatDoor
open Go.RowKit Go.Sort Go.ChangeShapes Go.WideShapes
set_option linter.unusedVariables false

theorem ex1 : lexv [97, 60, 61, 49, 46, 53] = ([⟨1, [97], 0, 1⟩, ⟨4, [60, 61], 0, 1⟩, ⟨3, [49, 46, 53], 98304, 1⟩, ⟨5, [], 0, 1⟩], 0, 0) := by kernel_rfl
theorem ex2 : lexv [48, 49] = ([], 1, 3) := by kernel_rfl

/-- A token's cells in a slice. -/
theorem tok_cells {w : World} {B b off j n : Nat} {l : List Tk} {x : Tk} (h : ∀ j x, l[j]? = some x → w.rangeAt b (off + j * 4) (tokC x)) (hx : l[j]? = some x) :
    w.cell? ⟨b, off + j * 4, none⟩ = some (.int .i64 x.k) ∧ w.cell? ⟨b, off + j * 4 + 1, none⟩ = some (.string (strOfNums x.t)) ∧ w.cell? ⟨b, off + j * 4 + 2, none⟩ = some (.int .i64 x.v) ∧ w.cell? ⟨b, off + j * 4 + 3, none⟩ = some (.int .i64 x.ln) :=
  ⟨h j x hx 0 _ rfl, h j x hx 1 _ rfl, h j x hx 2 _ rfl, h j x hx 3 _ rfl⟩

/-- What example's first call gives. -/
def GivesX (W : World) (e : Ending) (w' : World) : Prop :=
  ∃ b off c, 4 ≤ c ∧ e = .returned (.tuple #[.slice (some ⟨b, off, none⟩) 4 c, .int .i64 0, .int .i64 0]) ∧ w'.cell? ⟨b, off + 1, none⟩ = some (.string ⟨#[97]⟩) ∧ w'.cell? ⟨b, off + 4 + 1, none⟩ = some (.string ⟨#[60, 61]⟩) ∧
    w'.cell? ⟨b, off + 8 + 1, none⟩ = some (.string ⟨#[49, 46, 53]⟩) ∧ w'.cell? ⟨b, off + 8 + 2, none⟩ = some (.int .i64 98304) ∧ w'.cell? ⟨b, off + 12, none⟩ = some (.int .i64 5) ∧ Below W.heap.size W w'

theorem ex1_b (w : World) (LL : Lay6 w) : Calls Tryz.prog 61 #[.string ⟨#[97, 60, 61, 49, 46, 53]⟩] w (GivesX w) := by
  refine (lex_b ⟨#[97, 60, 61, 49, 46, 53]⟩ w LL (by decide)).mono fun e w' h => ?_
  have e1 : lexv (strL ⟨#[97, 60, 61, 49, 46, 53]⟩) = ([⟨1, [97], 0, 1⟩, ⟨4, [60, 61], 0, 1⟩, ⟨3, [49, 46, 53], 98304, 1⟩, ⟨5, [], 0, 1⟩], 0, 0) := ex1
  rw [e1] at h
  obtain ⟨A, n, c, rfl, R, hc, B⟩ := h
  obtain rfl : 4 = n := R.len
  obtain ⟨b, off, rfl, -, hr⟩ := R.2 (by decide)
  exact ⟨b, off, c, hc, rfl, hr 0 _ rfl 1 _ rfl, hr 1 _ rfl 1 _ rfl, hr 2 _ rfl 1 _ rfl, hr 2 _ rfl 2 _ rfl, hr 3 _ rfl 0 _ rfl, B⟩

theorem ex2_b (w : World) (LL : Lay6 w) : Calls Tryz.prog 61 #[.string ⟨#[48, 49]⟩] w fun e w' => (∃ A n c, e = .returned (.tuple #[.slice A n c, .int .i64 1, .int .i64 3])) ∧ Below w.heap.size w w' := by
  refine (lex_b ⟨#[48, 49]⟩ w LL (by decide)).mono fun e w' h => ?_
  have e1 : lexv (strL ⟨#[48, 49]⟩) = ([], 1, 3) := ex2
  rw [e1] at h
  obtain ⟨A, n, c, rfl, R, hc, B⟩ := h
  exact ⟨⟨A, n, c, rfl⟩, B⟩

end Go.Proofs.YtjpkcgepdfpbnaaGreatDoor
