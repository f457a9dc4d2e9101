/- The openings of the arguments by value. -/
import Derived.Test.YtfpnbgmmgnpggaaVP4
import Derived.Test.YtfpnbgmmgnpggaaBytes
import Derived.WalkKit
import Derived.ProofKit
import Derived.OpenShut
import Derived.DataShut
import Derived.Carry
import Derived.SizedLaws
import Derived.Lib.SmallJoins
namespace Go.Proofs.Ytfpnbgmmgnpggaa
set_option linter.unusedSimpArgs false
open Go.RowKit Go.ChangeShapes Go.WideShapes Go.ChangeAt Go.Joins
set_option linter.unusedVariables false

theorem tr_i64 {H : Type} {enc : TypeId × Value → H} {w : World} {base : Nat} {spare : Nat → Bool} {held : Bool} {P : Program} {n : Nat} {t : TypeId} {v : Value} {x : DataW H × List MemPlace} (ht : P.underlying t = some (.int .i64)) (h : DataW.trod enc P w base spare held n t [v] = some x) : ∃ z : Int, v = .int .i64 z ∧ -9223372036854775808 ≤ z ∧ z ≤ 9223372036854775807 := by
  obtain ⟨z, e, _, hw⟩ := DataW.trod_int ht h
  simp only [List.cons.injEq, and_true] at e
  exact ⟨z, e, (Lit.wf_int_iff .i64 z).1 hw⟩

theorem tr_bool {H : Type} {enc : TypeId × Value → H} {w : World} {base : Nat} {spare : Nat → Bool} {held : Bool} {P : Program} {n : Nat} {t : TypeId} {v : Value} {x : DataW H × List MemPlace} (ht : P.underlying t = some .bool) (h : DataW.trod enc P w base spare held n t [v] = some x) : ∃ z : Bool, v = .bool z := by
  obtain ⟨z, e, _⟩ := DataW.trod_bool ht h
  simp only [List.cons.injEq, and_true] at e
  exact ⟨z, e⟩

theorem lst6 {α : Type} {l : List α} (h : l.length = 6) : ∃ v0 v1 v2 v3 v4 v5, l = [v0, v1, v2, v3, v4, v5] := by
  match l, h with
  | [v0, v1, v2, v3, v4, v5], _ => exact ⟨v0, v1, v2, v3, v4, v5, rfl⟩

theorem tr_Viewport {H : Type} {enc : TypeId × Value → H} {w : World} {base : Nat} {spare : Nat → Bool} {held : Bool} {n : Nat} {cs : List Value} {x : DataW H × List MemPlace} (h : DataW.trod enc Try.prog w base spare held n 23 cs = some x) :
    ∃ (z0 : Int) (z1 : Int) (z2 : Int) (z3 : Int) (z4 : Int) (z5 : Int) (zD0 : DataW H) (zD1 : DataW H) (zD2 : DataW H) (zD3 : DataW H) (zD4 : DataW H) (zD5 : DataW H), cs = [.int .i64 z0, .int .i64 z1, .int .i64 z2, .int .i64 z3, .int .i64 z4, .int .i64 z5] ∧ x.1 = (.agg [zD0, zD1, zD2, zD3, zD4, zD5] : DataW H) ∧ (-9223372036854775808 ≤ z0 ∧ z0 ≤ 9223372036854775807) ∧ (-9223372036854775808 ≤ z1 ∧ z1 ≤ 9223372036854775807) ∧ (-9223372036854775808 ≤ z2 ∧ z2 ≤ 9223372036854775807) ∧ (-9223372036854775808 ≤ z3 ∧ z3 ≤ 9223372036854775807) ∧ (-9223372036854775808 ≤ z4 ∧ z4 ≤ 9223372036854775807) ∧ (-9223372036854775808 ≤ z5 ∧ z5 ≤ 9223372036854775807) ∧ True := by
  obtain ⟨xs, m, _, hx0, hcl, hlen, hx⟩ := DataW.trod_struct Try.underlying23 h
  rw [show Try.prog.cellsOf 23 = 6 from by kernel_rfl] at hcl
  obtain ⟨v0, v1, v2, v3, v4, v5, rfl⟩ := lst6 hcl
  obtain ⟨y0, y1, y2, y3, y4, y5, rfl⟩ := lst6 (hlen.trans rfl)
  have h0 : DataW.trod enc Try.prog w base spare held m 3 [v0] = some y0 := by
    have q := hx 0 _ rfl
    have q2 : DataW.trod enc Try.prog w base spare held m 3 (List.take (Try.prog.cellsOf 3) (List.drop 0 [v0, v1, v2, v3, v4, v5])) = some y0 := q
    rw [show Try.prog.cellsOf 3 = 1 from by kernel_rfl] at q2
    exact q2
  have h1 : DataW.trod enc Try.prog w base spare held m 3 [v1] = some y1 := by
    have q := hx 1 _ rfl
    have q2 : DataW.trod enc Try.prog w base spare held m 3 (List.take (Try.prog.cellsOf 3) (List.drop 1 [v0, v1, v2, v3, v4, v5])) = some y1 := q
    rw [show Try.prog.cellsOf 3 = 1 from by kernel_rfl] at q2
    exact q2
  have h2 : DataW.trod enc Try.prog w base spare held m 3 [v2] = some y2 := by
    have q := hx 2 _ rfl
    have q2 : DataW.trod enc Try.prog w base spare held m 3 (List.take (Try.prog.cellsOf 3) (List.drop 2 [v0, v1, v2, v3, v4, v5])) = some y2 := q
    rw [show Try.prog.cellsOf 3 = 1 from by kernel_rfl] at q2
    exact q2
  have h3 : DataW.trod enc Try.prog w base spare held m 3 [v3] = some y3 := by
    have q := hx 3 _ rfl
    have q2 : DataW.trod enc Try.prog w base spare held m 3 (List.take (Try.prog.cellsOf 3) (List.drop 3 [v0, v1, v2, v3, v4, v5])) = some y3 := q
    rw [show Try.prog.cellsOf 3 = 1 from by kernel_rfl] at q2
    exact q2
  have h4 : DataW.trod enc Try.prog w base spare held m 3 [v4] = some y4 := by
    have q := hx 4 _ rfl
    have q2 : DataW.trod enc Try.prog w base spare held m 3 (List.take (Try.prog.cellsOf 3) (List.drop 4 [v0, v1, v2, v3, v4, v5])) = some y4 := q
    rw [show Try.prog.cellsOf 3 = 1 from by kernel_rfl] at q2
    exact q2
  have h5 : DataW.trod enc Try.prog w base spare held m 3 [v5] = some y5 := by
    have q := hx 5 _ rfl
    have q2 : DataW.trod enc Try.prog w base spare held m 3 (List.take (Try.prog.cellsOf 3) (List.drop 5 [v0, v1, v2, v3, v4, v5])) = some y5 := q
    rw [show Try.prog.cellsOf 3 = 1 from by kernel_rfl] at q2
    exact q2
  obtain ⟨z0, rfl, r0a, r0b⟩ := tr_i64 Try.underlying3 h0
  obtain ⟨z1, rfl, r1a, r1b⟩ := tr_i64 Try.underlying3 h1
  obtain ⟨z2, rfl, r2a, r2b⟩ := tr_i64 Try.underlying3 h2
  obtain ⟨z3, rfl, r3a, r3b⟩ := tr_i64 Try.underlying3 h3
  obtain ⟨z4, rfl, r4a, r4b⟩ := tr_i64 Try.underlying3 h4
  obtain ⟨z5, rfl, r5a, r5b⟩ := tr_i64 Try.underlying3 h5
  exact ⟨z0, z1, z2, z3, z4, z5, y0.1, y1.1, y2.1, y3.1, y4.1, y5.1, rfl, by rw [hx0]; simp only [List.map_cons, List.map_nil], ⟨r0a, r0b⟩, ⟨r1a, r1b⟩, ⟨r2a, r2b⟩, ⟨r3a, r3b⟩, ⟨r4a, r4b⟩, ⟨r5a, r5b⟩, trivial⟩

theorem open_vp {H : Type} {enc : TypeId × Value → H} {w : World} {base : Nat} {spare : Nat → Bool} {held : Bool} {r : Reach} {b0 : Nat} {v : Value} {d : DataW H} {p : List MemPlace} (hv : Value.okWide Try.prog w r b0 23 v) (h : DataW.Trod enc Try.prog w base spare held 23 v d p) :
    ∃ (z0 : Int) (z1 : Int) (z2 : Int) (z3 : Int) (z4 : Int) (z5 : Int) (zD0 : DataW H) (zD1 : DataW H) (zD2 : DataW H) (zD3 : DataW H) (zD4 : DataW H) (zD5 : DataW H), v = .agg #[.int .i64 z0, .int .i64 z1, .int .i64 z2, .int .i64 z3, .int .i64 z4, .int .i64 z5] ∧ d = (.agg [zD0, zD1, zD2, zD3, zD4, zD5] : DataW H) ∧ (-9223372036854775808 ≤ z0 ∧ z0 ≤ 9223372036854775807) ∧ (-9223372036854775808 ≤ z1 ∧ z1 ≤ 9223372036854775807) ∧ (-9223372036854775808 ≤ z2 ∧ z2 ≤ 9223372036854775807) ∧ (-9223372036854775808 ≤ z3 ∧ z3 ≤ 9223372036854775807) ∧ (-9223372036854775808 ≤ z4 ∧ z4 ≤ 9223372036854775807) ∧ (-9223372036854775808 ≤ z5 ∧ z5 ≤ 9223372036854775807) ∧ True := by
  obtain ⟨cs, rfl, hsz⟩ := okWide_struct Try.underlying23 hv
  obtain ⟨fuel, hf⟩ := h
  obtain ⟨z0, z1, z2, z3, z4, z5, zD0, zD1, zD2, zD3, zD4, zD5, e, qd, g0, g1, g2, g3, g4, g5, _⟩ := tr_Viewport hf
  obtain ⟨l⟩ := cs
  simp only [Value.cells] at e
  subst e
  exact ⟨z0, z1, z2, z3, z4, z5, zD0, zD1, zD2, zD3, zD4, zD5, rfl, qd, g0, g1, g2, g3, g4, g5, trivial⟩

theorem tr_ints {H : Type} {enc : TypeId × Value → H} {w : World} {base : Nat} {spare : Nat → Bool} {held : Bool} {P : Program} {n : Nat} {t te : TypeId} {v : Value} {x : DataW H × List MemPlace} (ht : P.underlying t = some (.slice te)) (he : P.underlying te = some (.int .i64)) (hc : P.cellsOf te = 1) (h : DataW.trod enc P w base spare held n t [v] = some x) :
    ∃ (A : Option Addr) (n c : Nat) (l : List Int), v = .slice A n c ∧ Rd w w.heap.size .i64 A n l ∧ n ≤ c ∧ c ≤ maxLen ∧ (x.1 = .nil ∧ n = 0 ∨ ∃ elems spare, x.1 = .slice elems spare ∧ elems.length = n) := by
  obtain ⟨A, n, c, l, e, R, nc, cm, dd⟩ := rd_open ht he hc h
  exact ⟨A, n, c, l, e, R, nc, cm, dd⟩

theorem lst4 {α : Type} {l : List α} (h : l.length = 4) : ∃ v0 v1 v2 v3, l = [v0, v1, v2, v3] := by
  match l, h with
  | [v0, v1, v2, v3], _ => exact ⟨v0, v1, v2, v3, rfl⟩

theorem tr_Vec4 {H : Type} {enc : TypeId × Value → H} {w : World} {base : Nat} {spare : Nat → Bool} {held : Bool} {n : Nat} {cs : List Value} {x : DataW H × List MemPlace} (h : DataW.trod enc Try.prog w base spare held n 35 cs = some x) :
    ∃ (z0 : Int) (z1 : Int) (z2 : Int) (z3 : Int) (zD0 : DataW H) (zD1 : DataW H) (zD2 : DataW H) (zD3 : DataW H), cs = [.int .i64 z0, .int .i64 z1, .int .i64 z2, .int .i64 z3] ∧ x.1 = (.agg [zD0, zD1, zD2, zD3] : DataW H) ∧ (-9223372036854775808 ≤ z0 ∧ z0 ≤ 9223372036854775807) ∧ (-9223372036854775808 ≤ z1 ∧ z1 ≤ 9223372036854775807) ∧ (-9223372036854775808 ≤ z2 ∧ z2 ≤ 9223372036854775807) ∧ (-9223372036854775808 ≤ z3 ∧ z3 ≤ 9223372036854775807) ∧ True := by
  obtain ⟨xs, m, _, hx0, hcl, hlen, hx⟩ := DataW.trod_struct Try.underlying35 h
  rw [show Try.prog.cellsOf 35 = 4 from by kernel_rfl] at hcl
  obtain ⟨v0, v1, v2, v3, rfl⟩ := lst4 hcl
  obtain ⟨y0, y1, y2, y3, rfl⟩ := lst4 (hlen.trans rfl)
  have h0 : DataW.trod enc Try.prog w base spare held m 3 [v0] = some y0 := by
    have q := hx 0 _ rfl
    have q2 : DataW.trod enc Try.prog w base spare held m 3 (List.take (Try.prog.cellsOf 3) (List.drop 0 [v0, v1, v2, v3])) = some y0 := q
    rw [show Try.prog.cellsOf 3 = 1 from by kernel_rfl] at q2
    exact q2
  have h1 : DataW.trod enc Try.prog w base spare held m 3 [v1] = some y1 := by
    have q := hx 1 _ rfl
    have q2 : DataW.trod enc Try.prog w base spare held m 3 (List.take (Try.prog.cellsOf 3) (List.drop 1 [v0, v1, v2, v3])) = some y1 := q
    rw [show Try.prog.cellsOf 3 = 1 from by kernel_rfl] at q2
    exact q2
  have h2 : DataW.trod enc Try.prog w base spare held m 3 [v2] = some y2 := by
    have q := hx 2 _ rfl
    have q2 : DataW.trod enc Try.prog w base spare held m 3 (List.take (Try.prog.cellsOf 3) (List.drop 2 [v0, v1, v2, v3])) = some y2 := q
    rw [show Try.prog.cellsOf 3 = 1 from by kernel_rfl] at q2
    exact q2
  have h3 : DataW.trod enc Try.prog w base spare held m 3 [v3] = some y3 := by
    have q := hx 3 _ rfl
    have q2 : DataW.trod enc Try.prog w base spare held m 3 (List.take (Try.prog.cellsOf 3) (List.drop 3 [v0, v1, v2, v3])) = some y3 := q
    rw [show Try.prog.cellsOf 3 = 1 from by kernel_rfl] at q2
    exact q2
  obtain ⟨z0, rfl, r0a, r0b⟩ := tr_i64 Try.underlying3 h0
  obtain ⟨z1, rfl, r1a, r1b⟩ := tr_i64 Try.underlying3 h1
  obtain ⟨z2, rfl, r2a, r2b⟩ := tr_i64 Try.underlying3 h2
  obtain ⟨z3, rfl, r3a, r3b⟩ := tr_i64 Try.underlying3 h3
  exact ⟨z0, z1, z2, z3, y0.1, y1.1, y2.1, y3.1, rfl, by rw [hx0]; simp only [List.map_cons, List.map_nil], ⟨r0a, r0b⟩, ⟨r1a, r1b⟩, ⟨r2a, r2b⟩, ⟨r3a, r3b⟩, trivial⟩

theorem lst2 {α : Type} {l : List α} (h : l.length = 2) : ∃ v0 v1, l = [v0, v1] := by
  match l, h with
  | [v0, v1], _ => exact ⟨v0, v1, rfl⟩

theorem lst5 {α : Type} {l : List α} (h : l.length = 5) : ∃ v0 v1 v2 v3 v4, l = [v0, v1, v2, v3, v4] := by
  match l, h with
  | [v0, v1, v2, v3, v4], _ => exact ⟨v0, v1, v2, v3, v4, rfl⟩

theorem tr_Vertex {H : Type} {enc : TypeId × Value → H} {w : World} {base : Nat} {spare : Nat → Bool} {held : Bool} {n : Nat} {cs : List Value} {x : DataW H × List MemPlace} (h : DataW.trod enc Try.prog w base spare held n 37 cs = some x) :
    ∃ (z0 : Int) (z1 : Int) (z2 : Int) (z3 : Int) (zA4 : Option Addr) (zn4 : Nat) (zc4 : Nat) (zl4 : List Int) (zD0 : DataW H) (zD1 : DataW H) (zD2 : DataW H) (zD3 : DataW H) (zD4 : DataW H), cs = [.int .i64 z0, .int .i64 z1, .int .i64 z2, .int .i64 z3, .slice zA4 zn4 zc4] ∧ x.1 = (.agg [(.agg [zD0, zD1, zD2, zD3] : DataW H), zD4] : DataW H) ∧ (-9223372036854775808 ≤ z0 ∧ z0 ≤ 9223372036854775807) ∧ (-9223372036854775808 ≤ z1 ∧ z1 ≤ 9223372036854775807) ∧ (-9223372036854775808 ≤ z2 ∧ z2 ≤ 9223372036854775807) ∧ (-9223372036854775808 ≤ z3 ∧ z3 ≤ 9223372036854775807) ∧ (Rd w w.heap.size .i64 zA4 zn4 zl4 ∧ zn4 ≤ zc4 ∧ zc4 ≤ maxLen ∧ (zD4 = .nil ∧ zn4 = 0 ∨ ∃ elems spare, zD4 = .slice elems spare ∧ elems.length = zn4)) ∧ True := by
  obtain ⟨xs, m, _, hx0, hcl, hlen, hx⟩ := DataW.trod_struct Try.underlying37 h
  rw [show Try.prog.cellsOf 37 = 5 from by kernel_rfl] at hcl
  obtain ⟨v0, v1, v2, v3, v4, rfl⟩ := lst5 hcl
  obtain ⟨y0, y1, rfl⟩ := lst2 (hlen.trans rfl)
  have h0 : DataW.trod enc Try.prog w base spare held m 35 [v0, v1, v2, v3] = some y0 := by
    have q := hx 0 _ rfl
    have q2 : DataW.trod enc Try.prog w base spare held m 35 (List.take (Try.prog.cellsOf 35) (List.drop 0 [v0, v1, v2, v3, v4])) = some y0 := q
    rw [show Try.prog.cellsOf 35 = 4 from by kernel_rfl] at q2
    exact q2
  have h1 : DataW.trod enc Try.prog w base spare held m 27 [v4] = some y1 := by
    have q := hx 1 _ rfl
    have q2 : DataW.trod enc Try.prog w base spare held m 27 (List.take (Try.prog.cellsOf 27) (List.drop 4 [v0, v1, v2, v3, v4])) = some y1 := q
    rw [show Try.prog.cellsOf 27 = 1 from by kernel_rfl] at q2
    exact q2
  obtain ⟨u0_0, u0_1, u0_2, u0_3, u0_D0, u0_D1, u0_D2, u0_D3, e0, q0, g0_0, g0_1, g0_2, g0_3, _⟩ := tr_Vec4 h0
  simp only [List.cons.injEq, and_true] at e0
  obtain ⟨rfl, rfl, rfl, rfl⟩ := e0
  obtain ⟨zA4, zn4, zc4, zl4, rfl, r4⟩ := tr_ints Try.underlying27 Try.underlying3 (by kernel_rfl) h1
  exact ⟨u0_0, u0_1, u0_2, u0_3, zA4, zn4, zc4, zl4, u0_D0, u0_D1, u0_D2, u0_D3, y1.1, rfl, by rw [hx0]; simp only [List.map_cons, List.map_nil, q0], g0_0, g0_1, g0_2, g0_3, r4, trivial⟩

theorem open_vtx {H : Type} {enc : TypeId × Value → H} {w : World} {base : Nat} {spare : Nat → Bool} {held : Bool} {r : Reach} {b0 : Nat} {v : Value} {d : DataW H} {p : List MemPlace} (hv : Value.okWide Try.prog w r b0 37 v) (h : DataW.Trod enc Try.prog w base spare held 37 v d p) :
    ∃ (z0 : Int) (z1 : Int) (z2 : Int) (z3 : Int) (zA4 : Option Addr) (zn4 : Nat) (zc4 : Nat) (zl4 : List Int) (zD0 : DataW H) (zD1 : DataW H) (zD2 : DataW H) (zD3 : DataW H) (zD4 : DataW H), v = .agg #[.int .i64 z0, .int .i64 z1, .int .i64 z2, .int .i64 z3, .slice zA4 zn4 zc4] ∧ d = (.agg [(.agg [zD0, zD1, zD2, zD3] : DataW H), zD4] : DataW H) ∧ (-9223372036854775808 ≤ z0 ∧ z0 ≤ 9223372036854775807) ∧ (-9223372036854775808 ≤ z1 ∧ z1 ≤ 9223372036854775807) ∧ (-9223372036854775808 ≤ z2 ∧ z2 ≤ 9223372036854775807) ∧ (-9223372036854775808 ≤ z3 ∧ z3 ≤ 9223372036854775807) ∧ (Rd w w.heap.size .i64 zA4 zn4 zl4 ∧ zn4 ≤ zc4 ∧ zc4 ≤ maxLen ∧ (zD4 = .nil ∧ zn4 = 0 ∨ ∃ elems spare, zD4 = .slice elems spare ∧ elems.length = zn4)) ∧ True := by
  obtain ⟨cs, rfl, hsz⟩ := okWide_struct Try.underlying37 hv
  obtain ⟨fuel, hf⟩ := h
  obtain ⟨z0, z1, z2, z3, zA4, zn4, zc4, zl4, zD0, zD1, zD2, zD3, zD4, e, qd, g0, g1, g2, g3, g4, _⟩ := tr_Vertex hf
  obtain ⟨l⟩ := cs
  simp only [Value.cells] at e
  subst e
  exact ⟨z0, z1, z2, z3, zA4, zn4, zc4, zl4, zD0, zD1, zD2, zD3, zD4, rfl, qd, g0, g1, g2, g3, g4, trivial⟩

theorem tr_ScreenVertex {H : Type} {enc : TypeId × Value → H} {w : World} {base : Nat} {spare : Nat → Bool} {held : Bool} {n : Nat} {cs : List Value} {x : DataW H × List MemPlace} (h : DataW.trod enc Try.prog w base spare held n 29 cs = some x) :
    ∃ (z0 : Int) (z1 : Int) (z2 : Int) (z3 : Int) (zA4 : Option Addr) (zn4 : Nat) (zc4 : Nat) (zl4 : List Int) (zD0 : DataW H) (zD1 : DataW H) (zD2 : DataW H) (zD3 : DataW H) (zD4 : DataW H), cs = [.int .i64 z0, .int .i64 z1, .int .i64 z2, .int .i64 z3, .slice zA4 zn4 zc4] ∧ x.1 = (.agg [zD0, zD1, zD2, zD3, zD4] : DataW H) ∧ (-9223372036854775808 ≤ z0 ∧ z0 ≤ 9223372036854775807) ∧ (-9223372036854775808 ≤ z1 ∧ z1 ≤ 9223372036854775807) ∧ (-9223372036854775808 ≤ z2 ∧ z2 ≤ 9223372036854775807) ∧ (-9223372036854775808 ≤ z3 ∧ z3 ≤ 9223372036854775807) ∧ (Rd w w.heap.size .i64 zA4 zn4 zl4 ∧ zn4 ≤ zc4 ∧ zc4 ≤ maxLen ∧ (zD4 = .nil ∧ zn4 = 0 ∨ ∃ elems spare, zD4 = .slice elems spare ∧ elems.length = zn4)) ∧ True := by
  obtain ⟨xs, m, _, hx0, hcl, hlen, hx⟩ := DataW.trod_struct Try.underlying29 h
  rw [show Try.prog.cellsOf 29 = 5 from by kernel_rfl] at hcl
  obtain ⟨v0, v1, v2, v3, v4, rfl⟩ := lst5 hcl
  obtain ⟨y0, y1, y2, y3, y4, rfl⟩ := lst5 (hlen.trans rfl)
  have h0 : DataW.trod enc Try.prog w base spare held m 3 [v0] = some y0 := by
    have q := hx 0 _ rfl
    have q2 : DataW.trod enc Try.prog w base spare held m 3 (List.take (Try.prog.cellsOf 3) (List.drop 0 [v0, v1, v2, v3, v4])) = some y0 := q
    rw [show Try.prog.cellsOf 3 = 1 from by kernel_rfl] at q2
    exact q2
  have h1 : DataW.trod enc Try.prog w base spare held m 3 [v1] = some y1 := by
    have q := hx 1 _ rfl
    have q2 : DataW.trod enc Try.prog w base spare held m 3 (List.take (Try.prog.cellsOf 3) (List.drop 1 [v0, v1, v2, v3, v4])) = some y1 := q
    rw [show Try.prog.cellsOf 3 = 1 from by kernel_rfl] at q2
    exact q2
  have h2 : DataW.trod enc Try.prog w base spare held m 3 [v2] = some y2 := by
    have q := hx 2 _ rfl
    have q2 : DataW.trod enc Try.prog w base spare held m 3 (List.take (Try.prog.cellsOf 3) (List.drop 2 [v0, v1, v2, v3, v4])) = some y2 := q
    rw [show Try.prog.cellsOf 3 = 1 from by kernel_rfl] at q2
    exact q2
  have h3 : DataW.trod enc Try.prog w base spare held m 3 [v3] = some y3 := by
    have q := hx 3 _ rfl
    have q2 : DataW.trod enc Try.prog w base spare held m 3 (List.take (Try.prog.cellsOf 3) (List.drop 3 [v0, v1, v2, v3, v4])) = some y3 := q
    rw [show Try.prog.cellsOf 3 = 1 from by kernel_rfl] at q2
    exact q2
  have h4 : DataW.trod enc Try.prog w base spare held m 27 [v4] = some y4 := by
    have q := hx 4 _ rfl
    have q2 : DataW.trod enc Try.prog w base spare held m 27 (List.take (Try.prog.cellsOf 27) (List.drop 4 [v0, v1, v2, v3, v4])) = some y4 := q
    rw [show Try.prog.cellsOf 27 = 1 from by kernel_rfl] at q2
    exact q2
  obtain ⟨z0, rfl, r0a, r0b⟩ := tr_i64 Try.underlying3 h0
  obtain ⟨z1, rfl, r1a, r1b⟩ := tr_i64 Try.underlying3 h1
  obtain ⟨z2, rfl, r2a, r2b⟩ := tr_i64 Try.underlying3 h2
  obtain ⟨z3, rfl, r3a, r3b⟩ := tr_i64 Try.underlying3 h3
  obtain ⟨zA4, zn4, zc4, zl4, rfl, r4⟩ := tr_ints Try.underlying27 Try.underlying3 (by kernel_rfl) h4
  exact ⟨z0, z1, z2, z3, zA4, zn4, zc4, zl4, y0.1, y1.1, y2.1, y3.1, y4.1, rfl, by rw [hx0]; simp only [List.map_cons, List.map_nil], ⟨r0a, r0b⟩, ⟨r1a, r1b⟩, ⟨r2a, r2b⟩, ⟨r3a, r3b⟩, r4, trivial⟩

theorem open_svx {H : Type} {enc : TypeId × Value → H} {w : World} {base : Nat} {spare : Nat → Bool} {held : Bool} {r : Reach} {b0 : Nat} {v : Value} {d : DataW H} {p : List MemPlace} (hv : Value.okWide Try.prog w r b0 29 v) (h : DataW.Trod enc Try.prog w base spare held 29 v d p) :
    ∃ (z0 : Int) (z1 : Int) (z2 : Int) (z3 : Int) (zA4 : Option Addr) (zn4 : Nat) (zc4 : Nat) (zl4 : List Int) (zD0 : DataW H) (zD1 : DataW H) (zD2 : DataW H) (zD3 : DataW H) (zD4 : DataW H), v = .agg #[.int .i64 z0, .int .i64 z1, .int .i64 z2, .int .i64 z3, .slice zA4 zn4 zc4] ∧ d = (.agg [zD0, zD1, zD2, zD3, zD4] : DataW H) ∧ (-9223372036854775808 ≤ z0 ∧ z0 ≤ 9223372036854775807) ∧ (-9223372036854775808 ≤ z1 ∧ z1 ≤ 9223372036854775807) ∧ (-9223372036854775808 ≤ z2 ∧ z2 ≤ 9223372036854775807) ∧ (-9223372036854775808 ≤ z3 ∧ z3 ≤ 9223372036854775807) ∧ (Rd w w.heap.size .i64 zA4 zn4 zl4 ∧ zn4 ≤ zc4 ∧ zc4 ≤ maxLen ∧ (zD4 = .nil ∧ zn4 = 0 ∨ ∃ elems spare, zD4 = .slice elems spare ∧ elems.length = zn4)) ∧ True := by
  obtain ⟨cs, rfl, hsz⟩ := okWide_struct Try.underlying29 hv
  obtain ⟨fuel, hf⟩ := h
  obtain ⟨z0, z1, z2, z3, zA4, zn4, zc4, zl4, zD0, zD1, zD2, zD3, zD4, e, qd, g0, g1, g2, g3, g4, _⟩ := tr_ScreenVertex hf
  obtain ⟨l⟩ := cs
  simp only [Value.cells] at e
  subst e
  exact ⟨z0, z1, z2, z3, zA4, zn4, zc4, zl4, zD0, zD1, zD2, zD3, zD4, rfl, qd, g0, g1, g2, g3, g4, trivial⟩

end Go.Proofs.Ytfpnbgmmgnpggaa
