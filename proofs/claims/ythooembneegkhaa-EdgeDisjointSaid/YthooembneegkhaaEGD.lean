/- The openings of the arguments by value. -/
import Derived.Test.YthooembneegkhaaEG7
import Derived.Test.YthooembneegkhaaBytes
import Derived.WalkKit
import Derived.ProofKit
import Derived.OpenShut
import Derived.DataShut
import Derived.Carry
import Derived.SizedLaws
import Derived.Lib.SmallJoins
namespace Go.Proofs.Ythooembneegkhaa
set_option linter.unusedSimpArgs false
open Go.RowKit Go.ChangeShapes Go.WideShapes Go.ChangeAt Go.Joins
set_option linter.unusedVariables false

theorem tr_i64 {H : Type} {enc : TypeId × Value → H} {w : World} {base : Nat} {spare : Nat → Bool} {held : Bool} {P : Program} {n : Nat} {t : TypeId} {v : Value} {x : DataW H × List MemPlace} (ht : P.underlying t = some (.int .i64)) (h : DataW.trod enc P w base spare held n t [v] = some x) : ∃ z : Int, v = .int .i64 z ∧ -9223372036854775808 ≤ z ∧ z ≤ 9223372036854775807 := by
  obtain ⟨z, e, _, hw⟩ := DataW.trod_int ht h
  simp only [List.cons.injEq, and_true] at e
  exact ⟨z, e, (Lit.wf_int_iff .i64 z).1 hw⟩

theorem tr_bool {H : Type} {enc : TypeId × Value → H} {w : World} {base : Nat} {spare : Nat → Bool} {held : Bool} {P : Program} {n : Nat} {t : TypeId} {v : Value} {x : DataW H × List MemPlace} (ht : P.underlying t = some .bool) (h : DataW.trod enc P w base spare held n t [v] = some x) : ∃ z : Bool, v = .bool z := by
  obtain ⟨z, e, _⟩ := DataW.trod_bool ht h
  simp only [List.cons.injEq, and_true] at e
  exact ⟨z, e⟩

theorem lst2 {α : Type} {l : List α} (h : l.length = 2) : ∃ v0 v1, l = [v0, v1] := by
  match l, h with
  | [v0, v1], _ => exact ⟨v0, v1, rfl⟩

theorem tr_a_2_int {H : Type} {enc : TypeId × Value → H} {w : World} {base : Nat} {spare : Nat → Bool} {held : Bool} {n : Nat} {cs : List Value} {x : DataW H × List MemPlace} (h : DataW.trod enc Try.prog w base spare held n 22 cs = some x) :
    ∃ (z0 : Int) (z1 : Int) (zD0 : DataW H) (zD1 : DataW H), cs = [.int .i64 z0, .int .i64 z1] ∧ x.1 = (.agg [zD0, zD1] : DataW H) ∧ (-9223372036854775808 ≤ z0 ∧ z0 ≤ 9223372036854775807) ∧ (-9223372036854775808 ≤ z1 ∧ z1 ≤ 9223372036854775807) ∧ True := by
  obtain ⟨xs, m, _, hx0, hcl, hlen, hx⟩ := DataW.trod_array Try.underlying22 h
  rw [show Try.prog.cellsOf 22 = 2 from by kernel_rfl] at hcl
  obtain ⟨v0, v1, rfl⟩ := lst2 hcl
  obtain ⟨y0, y1, rfl⟩ := lst2 (hlen.trans rfl)
  have h0 : DataW.trod enc Try.prog w base spare held m 3 [v0] = some y0 := by
    have q := hx 0 (by omega)
    rw [show Try.prog.cellsOf 3 = 1 from by kernel_rfl] at q
    exact q
  have h1 : DataW.trod enc Try.prog w base spare held m 3 [v1] = some y1 := by
    have q := hx 1 (by omega)
    rw [show Try.prog.cellsOf 3 = 1 from by kernel_rfl] at q
    exact q
  obtain ⟨z0, rfl, r0a, r0b⟩ := tr_i64 Try.underlying3 h0
  obtain ⟨z1, rfl, r1a, r1b⟩ := tr_i64 Try.underlying3 h1
  exact ⟨z0, z1, y0.1, y1.1, rfl, by rw [hx0]; simp only [List.map_cons, List.map_nil], ⟨r0a, r0b⟩, ⟨r1a, r1b⟩, trivial⟩

theorem lst4 {α : Type} {l : List α} (h : l.length = 4) : ∃ v0 v1 v2 v3, l = [v0, v1, v2, v3] := by
  match l, h with
  | [v0, v1, v2, v3], _ => exact ⟨v0, v1, v2, v3, rfl⟩

theorem lst8 {α : Type} {l : List α} (h : l.length = 8) : ∃ v0 v1 v2 v3 v4 v5 v6 v7, l = [v0, v1, v2, v3, v4, v5, v6, v7] := by
  match l, h with
  | [v0, v1, v2, v3, v4, v5, v6, v7], _ => exact ⟨v0, v1, v2, v3, v4, v5, v6, v7, rfl⟩

theorem tr_a_4__2_int {H : Type} {enc : TypeId × Value → H} {w : World} {base : Nat} {spare : Nat → Bool} {held : Bool} {n : Nat} {cs : List Value} {x : DataW H × List MemPlace} (h : DataW.trod enc Try.prog w base spare held n 44 cs = some x) :
    ∃ (z0 : Int) (z1 : Int) (z2 : Int) (z3 : Int) (z4 : Int) (z5 : Int) (z6 : Int) (z7 : Int) (zD0 : DataW H) (zD1 : DataW H) (zD2 : DataW H) (zD3 : DataW H) (zD4 : DataW H) (zD5 : DataW H) (zD6 : DataW H) (zD7 : DataW H), cs = [.int .i64 z0, .int .i64 z1, .int .i64 z2, .int .i64 z3, .int .i64 z4, .int .i64 z5, .int .i64 z6, .int .i64 z7] ∧ x.1 = (.agg [(.agg [zD0, zD1] : DataW H), (.agg [zD2, zD3] : DataW H), (.agg [zD4, zD5] : DataW H), (.agg [zD6, zD7] : DataW H)] : DataW H) ∧ (-9223372036854775808 ≤ z0 ∧ z0 ≤ 9223372036854775807) ∧ (-9223372036854775808 ≤ z1 ∧ z1 ≤ 9223372036854775807) ∧ (-9223372036854775808 ≤ z2 ∧ z2 ≤ 9223372036854775807) ∧ (-9223372036854775808 ≤ z3 ∧ z3 ≤ 9223372036854775807) ∧ (-9223372036854775808 ≤ z4 ∧ z4 ≤ 9223372036854775807) ∧ (-9223372036854775808 ≤ z5 ∧ z5 ≤ 9223372036854775807) ∧ (-9223372036854775808 ≤ z6 ∧ z6 ≤ 9223372036854775807) ∧ (-9223372036854775808 ≤ z7 ∧ z7 ≤ 9223372036854775807) ∧ True := by
  obtain ⟨xs, m, _, hx0, hcl, hlen, hx⟩ := DataW.trod_array Try.underlying44 h
  rw [show Try.prog.cellsOf 44 = 8 from by kernel_rfl] at hcl
  obtain ⟨v0, v1, v2, v3, v4, v5, v6, v7, rfl⟩ := lst8 hcl
  obtain ⟨y0, y1, y2, y3, rfl⟩ := lst4 (hlen.trans rfl)
  have h0 : DataW.trod enc Try.prog w base spare held m 22 [v0, v1] = some y0 := by
    have q := hx 0 (by omega)
    rw [show Try.prog.cellsOf 22 = 2 from by kernel_rfl] at q
    exact q
  have h1 : DataW.trod enc Try.prog w base spare held m 22 [v2, v3] = some y1 := by
    have q := hx 1 (by omega)
    rw [show Try.prog.cellsOf 22 = 2 from by kernel_rfl] at q
    exact q
  have h2 : DataW.trod enc Try.prog w base spare held m 22 [v4, v5] = some y2 := by
    have q := hx 2 (by omega)
    rw [show Try.prog.cellsOf 22 = 2 from by kernel_rfl] at q
    exact q
  have h3 : DataW.trod enc Try.prog w base spare held m 22 [v6, v7] = some y3 := by
    have q := hx 3 (by omega)
    rw [show Try.prog.cellsOf 22 = 2 from by kernel_rfl] at q
    exact q
  obtain ⟨u0_0, u0_1, u0_D0, u0_D1, e0, q0, g0_0, g0_1, _⟩ := tr_a_2_int h0
  simp only [List.cons.injEq, and_true] at e0
  obtain ⟨rfl, rfl⟩ := e0
  obtain ⟨u1_0, u1_1, u1_D0, u1_D1, e1, q1, g1_0, g1_1, _⟩ := tr_a_2_int h1
  simp only [List.cons.injEq, and_true] at e1
  obtain ⟨rfl, rfl⟩ := e1
  obtain ⟨u2_0, u2_1, u2_D0, u2_D1, e2, q2, g2_0, g2_1, _⟩ := tr_a_2_int h2
  simp only [List.cons.injEq, and_true] at e2
  obtain ⟨rfl, rfl⟩ := e2
  obtain ⟨u3_0, u3_1, u3_D0, u3_D1, e3, q3, g3_0, g3_1, _⟩ := tr_a_2_int h3
  simp only [List.cons.injEq, and_true] at e3
  obtain ⟨rfl, rfl⟩ := e3
  exact ⟨u0_0, u0_1, u1_0, u1_1, u2_0, u2_1, u3_0, u3_1, u0_D0, u0_D1, u1_D0, u1_D1, u2_D0, u2_D1, u3_D0, u3_D1, rfl, by rw [hx0]; simp only [List.map_cons, List.map_nil, q0, q1, q2, q3], g0_0, g0_1, g1_0, g1_1, g2_0, g2_1, g3_0, g3_1, trivial⟩

theorem open_e4 {H : Type} {enc : TypeId × Value → H} {w : World} {base : Nat} {spare : Nat → Bool} {held : Bool} {r : Reach} {b0 : Nat} {v : Value} {d : DataW H} {p : List MemPlace} (hv : Value.okWide Try.prog w r b0 44 v) (h : DataW.Trod enc Try.prog w base spare held 44 v d p) :
    ∃ (z0 : Int) (z1 : Int) (z2 : Int) (z3 : Int) (z4 : Int) (z5 : Int) (z6 : Int) (z7 : Int) (zD0 : DataW H) (zD1 : DataW H) (zD2 : DataW H) (zD3 : DataW H) (zD4 : DataW H) (zD5 : DataW H) (zD6 : DataW H) (zD7 : DataW H), v = .agg #[.int .i64 z0, .int .i64 z1, .int .i64 z2, .int .i64 z3, .int .i64 z4, .int .i64 z5, .int .i64 z6, .int .i64 z7] ∧ d = (.agg [(.agg [zD0, zD1] : DataW H), (.agg [zD2, zD3] : DataW H), (.agg [zD4, zD5] : DataW H), (.agg [zD6, zD7] : DataW H)] : DataW H) ∧ (-9223372036854775808 ≤ z0 ∧ z0 ≤ 9223372036854775807) ∧ (-9223372036854775808 ≤ z1 ∧ z1 ≤ 9223372036854775807) ∧ (-9223372036854775808 ≤ z2 ∧ z2 ≤ 9223372036854775807) ∧ (-9223372036854775808 ≤ z3 ∧ z3 ≤ 9223372036854775807) ∧ (-9223372036854775808 ≤ z4 ∧ z4 ≤ 9223372036854775807) ∧ (-9223372036854775808 ≤ z5 ∧ z5 ≤ 9223372036854775807) ∧ (-9223372036854775808 ≤ z6 ∧ z6 ≤ 9223372036854775807) ∧ (-9223372036854775808 ≤ z7 ∧ z7 ≤ 9223372036854775807) ∧ True := by
  obtain ⟨cs, rfl, hsz, _⟩ : ∃ cs, v = .agg cs ∧ cs.size = Try.prog.cellsOf 44 ∧ Row.okWide Try.prog w r b0 44 cs := by simpa [Value.okWide, Try.underlying44] using hv
  obtain ⟨fuel, hf⟩ := h
  obtain ⟨z0, z1, z2, z3, z4, z5, z6, z7, zD0, zD1, zD2, zD3, zD4, zD5, zD6, zD7, e, qd, g0, g1, g2, g3, g4, g5, g6, g7, _⟩ := tr_a_4__2_int hf
  obtain ⟨l⟩ := cs
  simp only [Value.cells] at e
  subst e
  exact ⟨z0, z1, z2, z3, z4, z5, z6, z7, zD0, zD1, zD2, zD3, zD4, zD5, zD6, zD7, rfl, qd, g0, g1, g2, g3, g4, g5, g6, g7, trivial⟩

theorem open_p2 {H : Type} {enc : TypeId × Value → H} {w : World} {base : Nat} {spare : Nat → Bool} {held : Bool} {r : Reach} {b0 : Nat} {v : Value} {d : DataW H} {p : List MemPlace} (hv : Value.okWide Try.prog w r b0 22 v) (h : DataW.Trod enc Try.prog w base spare held 22 v d p) :
    ∃ (z0 : Int) (z1 : Int) (zD0 : DataW H) (zD1 : DataW H), v = .agg #[.int .i64 z0, .int .i64 z1] ∧ d = (.agg [zD0, zD1] : DataW H) ∧ (-9223372036854775808 ≤ z0 ∧ z0 ≤ 9223372036854775807) ∧ (-9223372036854775808 ≤ z1 ∧ z1 ≤ 9223372036854775807) ∧ True := by
  obtain ⟨cs, rfl, hsz, _⟩ : ∃ cs, v = .agg cs ∧ cs.size = Try.prog.cellsOf 22 ∧ Row.okWide Try.prog w r b0 22 cs := by simpa [Value.okWide, Try.underlying22] using hv
  obtain ⟨fuel, hf⟩ := h
  obtain ⟨z0, z1, zD0, zD1, e, qd, g0, g1, _⟩ := tr_a_2_int hf
  obtain ⟨l⟩ := cs
  simp only [Value.cells] at e
  subst e
  exact ⟨z0, z1, zD0, zD1, rfl, qd, g0, g1, trivial⟩

end Go.Proofs.Ythooembneegkhaa
