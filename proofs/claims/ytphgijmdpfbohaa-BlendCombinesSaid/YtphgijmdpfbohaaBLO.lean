/- The openings of the arguments by value. -/
import Derived.Test.YtphgijmdpfbohaaBL6
import Derived.Test.YtphgijmdpfbohaaBytes
import Derived.WalkKit
import Derived.ProofKit
import Derived.OpenShut
import Derived.DataShut
import Derived.Carry
import Derived.SizedLaws
import Derived.Lib.SmallJoins
namespace Go.Proofs.Ytphgijmdpfbohaa
set_option linter.unusedSimpArgs false
open Go.RowKit Go.ChangeShapes Go.WideShapes Go.ChangeAt Go.Joins
set_option linter.unusedVariables false

theorem tr_i64 {H : Type} {enc : TypeId × Value → H} {w : World} {base : Nat} {spare : Nat → Bool} {held : Bool} {P : Program} {n : Nat} {t : TypeId} {v : Value} {x : DataW H × List MemPlace} (ht : P.underlying t = some (.int .i64)) (h : DataW.trod enc P w base spare held n t [v] = some x) : ∃ z : Int, v = .int .i64 z ∧ -9223372036854775808 ≤ z ∧ z ≤ 9223372036854775807 := by
  obtain ⟨z, e, _, hw⟩ := DataW.trod_int ht h
  simp only [List.cons.injEq, and_true] at e
  exact ⟨z, e, (Lit.wf_int_iff .i64 z).1 hw⟩

theorem tr_bool {H : Type} {enc : TypeId × Value → H} {w : World} {base : Nat} {spare : Nat → Bool} {held : Bool} {P : Program} {n : Nat} {t : TypeId} {v : Value} {x : DataW H × List MemPlace} (ht : P.underlying t = some .bool) (h : DataW.trod enc P w base spare held n t [v] = some x) : ∃ z : Bool, v = .bool z := by
  obtain ⟨z, e, _⟩ := DataW.trod_bool ht h
  simp only [List.cons.injEq, and_true] at e
  exact ⟨z, e⟩

theorem lst2 {α : Type} {l : List α} (h : l.length = 2) : ∃ v0 v1, l = [v0, v1] := by
  match l, h with
  | [v0, v1], _ => exact ⟨v0, v1, rfl⟩

theorem tr_a_2_int {H : Type} {enc : TypeId × Value → H} {w : World} {base : Nat} {spare : Nat → Bool} {held : Bool} {n : Nat} {cs : List Value} {x : DataW H × List MemPlace} (h : DataW.trod enc Try.prog w base spare held n 32 cs = some x) :
    ∃ (z0 : Int) (z1 : Int) (zD0 : DataW H) (zD1 : DataW H), cs = [.int .i64 z0, .int .i64 z1] ∧ x.1 = (.agg [zD0, zD1] : DataW H) ∧ (-9223372036854775808 ≤ z0 ∧ z0 ≤ 9223372036854775807) ∧ (-9223372036854775808 ≤ z1 ∧ z1 ≤ 9223372036854775807) ∧ True := by
  obtain ⟨xs, m, _, hx0, hcl, hlen, hx⟩ := DataW.trod_array Try.underlying32 h
  rw [show Try.prog.cellsOf 32 = 2 from by kernel_rfl] at hcl
  obtain ⟨v0, v1, rfl⟩ := lst2 hcl
  obtain ⟨y0, y1, rfl⟩ := lst2 (hlen.trans rfl)
  have h0 : DataW.trod enc Try.prog w base spare held m 3 [v0] = some y0 := by
    have q := hx 0 (by omega)
    rw [show Try.prog.cellsOf 3 = 1 from by kernel_rfl] at q
    exact q
  have h1 : DataW.trod enc Try.prog w base spare held m 3 [v1] = some y1 := by
    have q := hx 1 (by omega)
    rw [show Try.prog.cellsOf 3 = 1 from by kernel_rfl] at q
    exact q
  obtain ⟨z0, rfl, r0a, r0b⟩ := tr_i64 Try.underlying3 h0
  obtain ⟨z1, rfl, r1a, r1b⟩ := tr_i64 Try.underlying3 h1
  exact ⟨z0, z1, y0.1, y1.1, rfl, by rw [hx0]; simp only [List.map_cons, List.map_nil], ⟨r0a, r0b⟩, ⟨r1a, r1b⟩, trivial⟩

theorem open_p2 {H : Type} {enc : TypeId × Value → H} {w : World} {base : Nat} {spare : Nat → Bool} {held : Bool} {r : Reach} {b0 : Nat} {v : Value} {d : DataW H} {p : List MemPlace} (hv : Value.okWide Try.prog w r b0 32 v) (h : DataW.Trod enc Try.prog w base spare held 32 v d p) :
    ∃ (z0 : Int) (z1 : Int) (zD0 : DataW H) (zD1 : DataW H), v = .agg #[.int .i64 z0, .int .i64 z1] ∧ d = (.agg [zD0, zD1] : DataW H) ∧ (-9223372036854775808 ≤ z0 ∧ z0 ≤ 9223372036854775807) ∧ (-9223372036854775808 ≤ z1 ∧ z1 ≤ 9223372036854775807) ∧ True := by
  obtain ⟨cs, rfl, hsz, _⟩ : ∃ cs, v = .agg cs ∧ cs.size = Try.prog.cellsOf 32 ∧ Row.okWide Try.prog w r b0 32 cs := by simpa [Value.okWide, Try.underlying32] using hv
  obtain ⟨fuel, hf⟩ := h
  obtain ⟨z0, z1, zD0, zD1, e, qd, g0, g1, _⟩ := tr_a_2_int hf
  obtain ⟨l⟩ := cs
  simp only [Value.cells] at e
  subst e
  exact ⟨z0, z1, zD0, zD1, rfl, qd, g0, g1, trivial⟩

end Go.Proofs.Ytphgijmdpfbohaa
