/- The openings of the arguments by value. -/
import Derived.Test.YtadndipdkdgkbaaRS3
import Derived.Test.YtadndipdkdgkbaaBytes
import Derived.WalkKit
import Derived.ProofKit
import Derived.OpenShut
import Derived.DataShut
import Derived.Carry
import Derived.SizedLaws
import Derived.Lib.SmallJoins
namespace Go.Proofs.Ytadndipdkdgkbaa
set_option linter.unusedSimpArgs false
open Go.RowKit Go.ChangeShapes Go.WideShapes Go.ChangeAt Go.Joins
set_option linter.unusedVariables false

theorem tr_i64 {H : Type} {enc : TypeId × Value → H} {w : World} {base : Nat} {spare : Nat → Bool} {held : Bool} {P : Program} {n : Nat} {t : TypeId} {v : Value} {x : DataW H × List MemPlace} (ht : P.underlying t = some (.int .i64)) (h : DataW.trod enc P w base spare held n t [v] = some x) : ∃ z : Int, v = .int .i64 z ∧ -9223372036854775808 ≤ z ∧ z ≤ 9223372036854775807 := by
  obtain ⟨z, e, _, hw⟩ := DataW.trod_int ht h
  simp only [List.cons.injEq, and_true] at e
  exact ⟨z, e, (Lit.wf_int_iff .i64 z).1 hw⟩

theorem tr_bool {H : Type} {enc : TypeId × Value → H} {w : World} {base : Nat} {spare : Nat → Bool} {held : Bool} {P : Program} {n : Nat} {t : TypeId} {v : Value} {x : DataW H × List MemPlace} (ht : P.underlying t = some .bool) (h : DataW.trod enc P w base spare held n t [v] = some x) : ∃ z : Bool, v = .bool z := by
  obtain ⟨z, e, _⟩ := DataW.trod_bool ht h
  simp only [List.cons.injEq, and_true] at e
  exact ⟨z, e⟩

theorem lst4 {α : Type} {l : List α} (h : l.length = 4) : ∃ v0 v1 v2 v3, l = [v0, v1, v2, v3] := by
  match l, h with
  | [v0, v1, v2, v3], _ => exact ⟨v0, v1, v2, v3, rfl⟩

theorem tr_Vec4 {H : Type} {enc : TypeId × Value → H} {w : World} {base : Nat} {spare : Nat → Bool} {held : Bool} {n : Nat} {cs : List Value} {x : DataW H × List MemPlace} (h : DataW.trod enc Try.prog w base spare held n 24 cs = some x) :
    ∃ (z0 : Int) (z1 : Int) (z2 : Int) (z3 : Int) (zD0 : DataW H) (zD1 : DataW H) (zD2 : DataW H) (zD3 : DataW H), cs = [.int .i64 z0, .int .i64 z1, .int .i64 z2, .int .i64 z3] ∧ x.1 = (.agg [zD0, zD1, zD2, zD3] : DataW H) ∧ (-9223372036854775808 ≤ z0 ∧ z0 ≤ 9223372036854775807) ∧ (-9223372036854775808 ≤ z1 ∧ z1 ≤ 9223372036854775807) ∧ (-9223372036854775808 ≤ z2 ∧ z2 ≤ 9223372036854775807) ∧ (-9223372036854775808 ≤ z3 ∧ z3 ≤ 9223372036854775807) ∧ True := by
  obtain ⟨xs, m, _, hx0, hcl, hlen, hx⟩ := DataW.trod_struct Try.underlying24 h
  rw [show Try.prog.cellsOf 24 = 4 from by kernel_rfl] at hcl
  obtain ⟨v0, v1, v2, v3, rfl⟩ := lst4 hcl
  obtain ⟨y0, y1, y2, y3, rfl⟩ := lst4 (hlen.trans rfl)
  have h0 : DataW.trod enc Try.prog w base spare held m 3 [v0] = some y0 := by
    have q := hx 0 _ rfl
    have q2 : DataW.trod enc Try.prog w base spare held m 3 (List.take (Try.prog.cellsOf 3) (List.drop 0 [v0, v1, v2, v3])) = some y0 := q
    rw [show Try.prog.cellsOf 3 = 1 from by kernel_rfl] at q2
    exact q2
  have h1 : DataW.trod enc Try.prog w base spare held m 3 [v1] = some y1 := by
    have q := hx 1 _ rfl
    have q2 : DataW.trod enc Try.prog w base spare held m 3 (List.take (Try.prog.cellsOf 3) (List.drop 1 [v0, v1, v2, v3])) = some y1 := q
    rw [show Try.prog.cellsOf 3 = 1 from by kernel_rfl] at q2
    exact q2
  have h2 : DataW.trod enc Try.prog w base spare held m 3 [v2] = some y2 := by
    have q := hx 2 _ rfl
    have q2 : DataW.trod enc Try.prog w base spare held m 3 (List.take (Try.prog.cellsOf 3) (List.drop 2 [v0, v1, v2, v3])) = some y2 := q
    rw [show Try.prog.cellsOf 3 = 1 from by kernel_rfl] at q2
    exact q2
  have h3 : DataW.trod enc Try.prog w base spare held m 3 [v3] = some y3 := by
    have q := hx 3 _ rfl
    have q2 : DataW.trod enc Try.prog w base spare held m 3 (List.take (Try.prog.cellsOf 3) (List.drop 3 [v0, v1, v2, v3])) = some y3 := q
    rw [show Try.prog.cellsOf 3 = 1 from by kernel_rfl] at q2
    exact q2
  obtain ⟨z0, rfl, r0a, r0b⟩ := tr_i64 Try.underlying3 h0
  obtain ⟨z1, rfl, r1a, r1b⟩ := tr_i64 Try.underlying3 h1
  obtain ⟨z2, rfl, r2a, r2b⟩ := tr_i64 Try.underlying3 h2
  obtain ⟨z3, rfl, r3a, r3b⟩ := tr_i64 Try.underlying3 h3
  exact ⟨z0, z1, z2, z3, y0.1, y1.1, y2.1, y3.1, rfl, by rw [hx0]; simp only [List.map_cons, List.map_nil], ⟨r0a, r0b⟩, ⟨r1a, r1b⟩, ⟨r2a, r2b⟩, ⟨r3a, r3b⟩, trivial⟩

theorem open_vec4 {H : Type} {enc : TypeId × Value → H} {w : World} {base : Nat} {spare : Nat → Bool} {held : Bool} {r : Reach} {b0 : Nat} {v : Value} {d : DataW H} {p : List MemPlace} (hv : Value.okWide Try.prog w r b0 24 v) (h : DataW.Trod enc Try.prog w base spare held 24 v d p) :
    ∃ (z0 : Int) (z1 : Int) (z2 : Int) (z3 : Int) (zD0 : DataW H) (zD1 : DataW H) (zD2 : DataW H) (zD3 : DataW H), v = .agg #[.int .i64 z0, .int .i64 z1, .int .i64 z2, .int .i64 z3] ∧ d = (.agg [zD0, zD1, zD2, zD3] : DataW H) ∧ (-9223372036854775808 ≤ z0 ∧ z0 ≤ 9223372036854775807) ∧ (-9223372036854775808 ≤ z1 ∧ z1 ≤ 9223372036854775807) ∧ (-9223372036854775808 ≤ z2 ∧ z2 ≤ 9223372036854775807) ∧ (-9223372036854775808 ≤ z3 ∧ z3 ≤ 9223372036854775807) ∧ True := by
  obtain ⟨cs, rfl, hsz⟩ := okWide_struct Try.underlying24 hv
  obtain ⟨fuel, hf⟩ := h
  obtain ⟨z0, z1, z2, z3, zD0, zD1, zD2, zD3, e, qd, g0, g1, g2, g3, _⟩ := tr_Vec4 hf
  obtain ⟨l⟩ := cs
  simp only [Value.cells] at e
  subst e
  exact ⟨z0, z1, z2, z3, zD0, zD1, zD2, zD3, rfl, qd, g0, g1, g2, g3, trivial⟩

end Go.Proofs.Ytadndipdkdgkbaa
