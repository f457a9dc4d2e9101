/- The openings of the arguments by value. -/
import Derived.Test.YtcnemjkcihlpeaaCV2
import Derived.Test.YtcnemjkcihlpeaaBytes
import Derived.WalkKit
import Derived.ProofKit
import Derived.OpenShut
import Derived.DataShut
import Derived.Carry
import Derived.SizedLaws
import Derived.Lib.SmallJoins
namespace Go.Proofs.Ytcnemjkcihlpeaa
set_option linter.unusedSimpArgs false
open Go.RowKit Go.ChangeShapes Go.WideShapes Go.ChangeAt Go.Joins
set_option linter.unusedVariables false

theorem tr_i64 {H : Type} {enc : TypeId × Value → H} {w : World} {base : Nat} {spare : Nat → Bool} {held : Bool} {P : Program} {n : Nat} {t : TypeId} {v : Value} {x : DataW H × List MemPlace} (ht : P.underlying t = some (.int .i64)) (h : DataW.trod enc P w base spare held n t [v] = some x) : ∃ z : Int, v = .int .i64 z ∧ -9223372036854775808 ≤ z ∧ z ≤ 9223372036854775807 := by
  obtain ⟨z, e, _, hw⟩ := DataW.trod_int ht h
  simp only [List.cons.injEq, and_true] at e
  exact ⟨z, e, (Lit.wf_int_iff .i64 z).1 hw⟩

theorem tr_bool {H : Type} {enc : TypeId × Value → H} {w : World} {base : Nat} {spare : Nat → Bool} {held : Bool} {P : Program} {n : Nat} {t : TypeId} {v : Value} {x : DataW H × List MemPlace} (ht : P.underlying t = some .bool) (h : DataW.trod enc P w base spare held n t [v] = some x) : ∃ z : Bool, v = .bool z := by
  obtain ⟨z, e, _⟩ := DataW.trod_bool ht h
  simp only [List.cons.injEq, and_true] at e
  exact ⟨z, e⟩

theorem tr_ints {H : Type} {enc : TypeId × Value → H} {w : World} {base : Nat} {spare : Nat → Bool} {held : Bool} {P : Program} {n : Nat} {t te : TypeId} {v : Value} {x : DataW H × List MemPlace} (ht : P.underlying t = some (.slice te)) (he : P.underlying te = some (.int .i64)) (hc : P.cellsOf te = 1) (h : DataW.trod enc P w base spare held n t [v] = some x) :
    ∃ (A : Option Addr) (n c : Nat) (l : List Int), v = .slice A n c ∧ Rd w w.heap.size .i64 A n l ∧ n ≤ c ∧ c ≤ maxLen ∧ (x.1 = .nil ∧ n = 0 ∨ ∃ elems spare, x.1 = .slice elems spare ∧ elems.length = n) := by
  obtain ⟨A, n, c, l, e, R, nc, cm, dd⟩ := rd_open ht he hc h
  exact ⟨A, n, c, l, e, R, nc, cm, dd⟩

theorem lst5 {α : Type} {l : List α} (h : l.length = 5) : ∃ v0 v1 v2 v3 v4, l = [v0, v1, v2, v3, v4] := by
  match l, h with
  | [v0, v1, v2, v3, v4], _ => exact ⟨v0, v1, v2, v3, v4, rfl⟩

theorem tr_ScreenVertex {H : Type} {enc : TypeId × Value → H} {w : World} {base : Nat} {spare : Nat → Bool} {held : Bool} {n : Nat} {cs : List Value} {x : DataW H × List MemPlace} (h : DataW.trod enc Try.prog w base spare held n 33 cs = some x) :
    ∃ (z0 : Int) (z1 : Int) (z2 : Int) (z3 : Int) (zA4 : Option Addr) (zn4 : Nat) (zc4 : Nat) (zl4 : List Int) (zD0 : DataW H) (zD1 : DataW H) (zD2 : DataW H) (zD3 : DataW H) (zD4 : DataW H), cs = [.int .i64 z0, .int .i64 z1, .int .i64 z2, .int .i64 z3, .slice zA4 zn4 zc4] ∧ x.1 = (.agg [zD0, zD1, zD2, zD3, zD4] : DataW H) ∧ (-9223372036854775808 ≤ z0 ∧ z0 ≤ 9223372036854775807) ∧ (-9223372036854775808 ≤ z1 ∧ z1 ≤ 9223372036854775807) ∧ (-9223372036854775808 ≤ z2 ∧ z2 ≤ 9223372036854775807) ∧ (-9223372036854775808 ≤ z3 ∧ z3 ≤ 9223372036854775807) ∧ (Rd w w.heap.size .i64 zA4 zn4 zl4 ∧ zn4 ≤ zc4 ∧ zc4 ≤ maxLen ∧ (zD4 = .nil ∧ zn4 = 0 ∨ ∃ elems spare, zD4 = .slice elems spare ∧ elems.length = zn4)) ∧ True := by
  obtain ⟨xs, m, _, hx0, hcl, hlen, hx⟩ := DataW.trod_struct Try.underlying33 h
  rw [show Try.prog.cellsOf 33 = 5 from by kernel_rfl] at hcl
  obtain ⟨v0, v1, v2, v3, v4, rfl⟩ := lst5 hcl
  obtain ⟨y0, y1, y2, y3, y4, rfl⟩ := lst5 (hlen.trans rfl)
  have h0 : DataW.trod enc Try.prog w base spare held m 3 [v0] = some y0 := by
    have q := hx 0 _ rfl
    have q2 : DataW.trod enc Try.prog w base spare held m 3 (List.take (Try.prog.cellsOf 3) (List.drop 0 [v0, v1, v2, v3, v4])) = some y0 := q
    rw [show Try.prog.cellsOf 3 = 1 from by kernel_rfl] at q2
    exact q2
  have h1 : DataW.trod enc Try.prog w base spare held m 3 [v1] = some y1 := by
    have q := hx 1 _ rfl
    have q2 : DataW.trod enc Try.prog w base spare held m 3 (List.take (Try.prog.cellsOf 3) (List.drop 1 [v0, v1, v2, v3, v4])) = some y1 := q
    rw [show Try.prog.cellsOf 3 = 1 from by kernel_rfl] at q2
    exact q2
  have h2 : DataW.trod enc Try.prog w base spare held m 3 [v2] = some y2 := by
    have q := hx 2 _ rfl
    have q2 : DataW.trod enc Try.prog w base spare held m 3 (List.take (Try.prog.cellsOf 3) (List.drop 2 [v0, v1, v2, v3, v4])) = some y2 := q
    rw [show Try.prog.cellsOf 3 = 1 from by kernel_rfl] at q2
    exact q2
  have h3 : DataW.trod enc Try.prog w base spare held m 3 [v3] = some y3 := by
    have q := hx 3 _ rfl
    have q2 : DataW.trod enc Try.prog w base spare held m 3 (List.take (Try.prog.cellsOf 3) (List.drop 3 [v0, v1, v2, v3, v4])) = some y3 := q
    rw [show Try.prog.cellsOf 3 = 1 from by kernel_rfl] at q2
    exact q2
  have h4 : DataW.trod enc Try.prog w base spare held m 31 [v4] = some y4 := by
    have q := hx 4 _ rfl
    have q2 : DataW.trod enc Try.prog w base spare held m 31 (List.take (Try.prog.cellsOf 31) (List.drop 4 [v0, v1, v2, v3, v4])) = some y4 := q
    rw [show Try.prog.cellsOf 31 = 1 from by kernel_rfl] at q2
    exact q2
  obtain ⟨z0, rfl, r0a, r0b⟩ := tr_i64 Try.underlying3 h0
  obtain ⟨z1, rfl, r1a, r1b⟩ := tr_i64 Try.underlying3 h1
  obtain ⟨z2, rfl, r2a, r2b⟩ := tr_i64 Try.underlying3 h2
  obtain ⟨z3, rfl, r3a, r3b⟩ := tr_i64 Try.underlying3 h3
  obtain ⟨zA4, zn4, zc4, zl4, rfl, r4⟩ := tr_ints Try.underlying31 Try.underlying3 (by kernel_rfl) h4
  exact ⟨z0, z1, z2, z3, zA4, zn4, zc4, zl4, y0.1, y1.1, y2.1, y3.1, y4.1, rfl, by rw [hx0]; simp only [List.map_cons, List.map_nil], ⟨r0a, r0b⟩, ⟨r1a, r1b⟩, ⟨r2a, r2b⟩, ⟨r3a, r3b⟩, r4, trivial⟩

theorem lst3 {α : Type} {l : List α} (h : l.length = 3) : ∃ v0 v1 v2, l = [v0, v1, v2] := by
  match l, h with
  | [v0, v1, v2], _ => exact ⟨v0, v1, v2, rfl⟩

theorem lst15 {α : Type} {l : List α} (h : l.length = 15) : ∃ v0 v1 v2 v3 v4 v5 v6 v7 v8 v9 v10 v11 v12 v13 v14, l = [v0, v1, v2, v3, v4, v5, v6, v7, v8, v9, v10, v11, v12, v13, v14] := by
  match l, h with
  | [v0, v1, v2, v3, v4, v5, v6, v7, v8, v9, v10, v11, v12, v13, v14], _ => exact ⟨v0, v1, v2, v3, v4, v5, v6, v7, v8, v9, v10, v11, v12, v13, v14, rfl⟩

theorem tr_a_3_api_ScreenVertex {H : Type} {enc : TypeId × Value → H} {w : World} {base : Nat} {spare : Nat → Bool} {held : Bool} {n : Nat} {cs : List Value} {x : DataW H × List MemPlace} (h : DataW.trod enc Try.prog w base spare held n 34 cs = some x) :
    ∃ (z0 : Int) (z1 : Int) (z2 : Int) (z3 : Int) (zA4 : Option Addr) (zn4 : Nat) (zc4 : Nat) (zl4 : List Int) (z5 : Int) (z6 : Int) (z7 : Int) (z8 : Int) (zA9 : Option Addr) (zn9 : Nat) (zc9 : Nat) (zl9 : List Int) (z10 : Int) (z11 : Int) (z12 : Int) (z13 : Int) (zA14 : Option Addr) (zn14 : Nat) (zc14 : Nat) (zl14 : List Int) (zD0 : DataW H) (zD1 : DataW H) (zD2 : DataW H) (zD3 : DataW H) (zD4 : DataW H) (zD5 : DataW H) (zD6 : DataW H) (zD7 : DataW H) (zD8 : DataW H) (zD9 : DataW H) (zD10 : DataW H) (zD11 : DataW H) (zD12 : DataW H) (zD13 : DataW H) (zD14 : DataW H), cs = [.int .i64 z0, .int .i64 z1, .int .i64 z2, .int .i64 z3, .slice zA4 zn4 zc4, .int .i64 z5, .int .i64 z6, .int .i64 z7, .int .i64 z8, .slice zA9 zn9 zc9, .int .i64 z10, .int .i64 z11, .int .i64 z12, .int .i64 z13, .slice zA14 zn14 zc14] ∧ x.1 = (.agg [(.agg [zD0, zD1, zD2, zD3, zD4] : DataW H), (.agg [zD5, zD6, zD7, zD8, zD9] : DataW H), (.agg [zD10, zD11, zD12, zD13, zD14] : DataW H)] : DataW H) ∧ (-9223372036854775808 ≤ z0 ∧ z0 ≤ 9223372036854775807) ∧ (-9223372036854775808 ≤ z1 ∧ z1 ≤ 9223372036854775807) ∧ (-9223372036854775808 ≤ z2 ∧ z2 ≤ 9223372036854775807) ∧ (-9223372036854775808 ≤ z3 ∧ z3 ≤ 9223372036854775807) ∧ (Rd w w.heap.size .i64 zA4 zn4 zl4 ∧ zn4 ≤ zc4 ∧ zc4 ≤ maxLen ∧ (zD4 = .nil ∧ zn4 = 0 ∨ ∃ elems spare, zD4 = .slice elems spare ∧ elems.length = zn4)) ∧ (-9223372036854775808 ≤ z5 ∧ z5 ≤ 9223372036854775807) ∧ (-9223372036854775808 ≤ z6 ∧ z6 ≤ 9223372036854775807) ∧ (-9223372036854775808 ≤ z7 ∧ z7 ≤ 9223372036854775807) ∧ (-9223372036854775808 ≤ z8 ∧ z8 ≤ 9223372036854775807) ∧ (Rd w w.heap.size .i64 zA9 zn9 zl9 ∧ zn9 ≤ zc9 ∧ zc9 ≤ maxLen ∧ (zD9 = .nil ∧ zn9 = 0 ∨ ∃ elems spare, zD9 = .slice elems spare ∧ elems.length = zn9)) ∧ (-9223372036854775808 ≤ z10 ∧ z10 ≤ 9223372036854775807) ∧ (-9223372036854775808 ≤ z11 ∧ z11 ≤ 9223372036854775807) ∧ (-9223372036854775808 ≤ z12 ∧ z12 ≤ 9223372036854775807) ∧ (-9223372036854775808 ≤ z13 ∧ z13 ≤ 9223372036854775807) ∧ (Rd w w.heap.size .i64 zA14 zn14 zl14 ∧ zn14 ≤ zc14 ∧ zc14 ≤ maxLen ∧ (zD14 = .nil ∧ zn14 = 0 ∨ ∃ elems spare, zD14 = .slice elems spare ∧ elems.length = zn14)) ∧ True := by
  obtain ⟨xs, m, _, hx0, hcl, hlen, hx⟩ := DataW.trod_array Try.underlying34 h
  rw [show Try.prog.cellsOf 34 = 15 from by kernel_rfl] at hcl
  obtain ⟨v0, v1, v2, v3, v4, v5, v6, v7, v8, v9, v10, v11, v12, v13, v14, rfl⟩ := lst15 hcl
  obtain ⟨y0, y1, y2, rfl⟩ := lst3 (hlen.trans rfl)
  have h0 : DataW.trod enc Try.prog w base spare held m 33 [v0, v1, v2, v3, v4] = some y0 := by
    have q := hx 0 (by omega)
    rw [show Try.prog.cellsOf 33 = 5 from by kernel_rfl] at q
    exact q
  have h1 : DataW.trod enc Try.prog w base spare held m 33 [v5, v6, v7, v8, v9] = some y1 := by
    have q := hx 1 (by omega)
    rw [show Try.prog.cellsOf 33 = 5 from by kernel_rfl] at q
    exact q
  have h2 : DataW.trod enc Try.prog w base spare held m 33 [v10, v11, v12, v13, v14] = some y2 := by
    have q := hx 2 (by omega)
    rw [show Try.prog.cellsOf 33 = 5 from by kernel_rfl] at q
    exact q
  obtain ⟨u0_0, u0_1, u0_2, u0_3, u0_A4, u0_n4, u0_c4, u0_l4, u0_D0, u0_D1, u0_D2, u0_D3, u0_D4, e0, q0, g0_0, g0_1, g0_2, g0_3, g0_4, _⟩ := tr_ScreenVertex h0
  simp only [List.cons.injEq, and_true] at e0
  obtain ⟨rfl, rfl, rfl, rfl, rfl⟩ := e0
  obtain ⟨u1_0, u1_1, u1_2, u1_3, u1_A4, u1_n4, u1_c4, u1_l4, u1_D0, u1_D1, u1_D2, u1_D3, u1_D4, e1, q1, g1_0, g1_1, g1_2, g1_3, g1_4, _⟩ := tr_ScreenVertex h1
  simp only [List.cons.injEq, and_true] at e1
  obtain ⟨rfl, rfl, rfl, rfl, rfl⟩ := e1
  obtain ⟨u2_0, u2_1, u2_2, u2_3, u2_A4, u2_n4, u2_c4, u2_l4, u2_D0, u2_D1, u2_D2, u2_D3, u2_D4, e2, q2, g2_0, g2_1, g2_2, g2_3, g2_4, _⟩ := tr_ScreenVertex h2
  simp only [List.cons.injEq, and_true] at e2
  obtain ⟨rfl, rfl, rfl, rfl, rfl⟩ := e2
  exact ⟨u0_0, u0_1, u0_2, u0_3, u0_A4, u0_n4, u0_c4, u0_l4, u1_0, u1_1, u1_2, u1_3, u1_A4, u1_n4, u1_c4, u1_l4, u2_0, u2_1, u2_2, u2_3, u2_A4, u2_n4, u2_c4, u2_l4, u0_D0, u0_D1, u0_D2, u0_D3, u0_D4, u1_D0, u1_D1, u1_D2, u1_D3, u1_D4, u2_D0, u2_D1, u2_D2, u2_D3, u2_D4, rfl, by rw [hx0]; simp only [List.map_cons, List.map_nil, q0, q1, q2], g0_0, g0_1, g0_2, g0_3, g0_4, g1_0, g1_1, g1_2, g1_3, g1_4, g2_0, g2_1, g2_2, g2_3, g2_4, trivial⟩

theorem lst17 {α : Type} {l : List α} (h : l.length = 17) : ∃ v0 v1 v2 v3 v4 v5 v6 v7 v8 v9 v10 v11 v12 v13 v14 v15 v16, l = [v0, v1, v2, v3, v4, v5, v6, v7, v8, v9, v10, v11, v12, v13, v14, v15, v16] := by
  match l, h with
  | [v0, v1, v2, v3, v4, v5, v6, v7, v8, v9, v10, v11, v12, v13, v14, v15, v16], _ => exact ⟨v0, v1, v2, v3, v4, v5, v6, v7, v8, v9, v10, v11, v12, v13, v14, v15, v16, rfl⟩

theorem tr_Triangle {H : Type} {enc : TypeId × Value → H} {w : World} {base : Nat} {spare : Nat → Bool} {held : Bool} {n : Nat} {cs : List Value} {x : DataW H × List MemPlace} (h : DataW.trod enc Try.prog w base spare held n 36 cs = some x) :
    ∃ (z0 : Int) (z1 : Int) (z2 : Int) (z3 : Int) (zA4 : Option Addr) (zn4 : Nat) (zc4 : Nat) (zl4 : List Int) (z5 : Int) (z6 : Int) (z7 : Int) (z8 : Int) (zA9 : Option Addr) (zn9 : Nat) (zc9 : Nat) (zl9 : List Int) (z10 : Int) (z11 : Int) (z12 : Int) (z13 : Int) (zA14 : Option Addr) (zn14 : Nat) (zc14 : Nat) (zl14 : List Int) (z15 : Int) (z16 : Bool) (zD0 : DataW H) (zD1 : DataW H) (zD2 : DataW H) (zD3 : DataW H) (zD4 : DataW H) (zD5 : DataW H) (zD6 : DataW H) (zD7 : DataW H) (zD8 : DataW H) (zD9 : DataW H) (zD10 : DataW H) (zD11 : DataW H) (zD12 : DataW H) (zD13 : DataW H) (zD14 : DataW H) (zD15 : DataW H) (zD16 : DataW H), cs = [.int .i64 z0, .int .i64 z1, .int .i64 z2, .int .i64 z3, .slice zA4 zn4 zc4, .int .i64 z5, .int .i64 z6, .int .i64 z7, .int .i64 z8, .slice zA9 zn9 zc9, .int .i64 z10, .int .i64 z11, .int .i64 z12, .int .i64 z13, .slice zA14 zn14 zc14, .int .i64 z15, .bool z16] ∧ x.1 = (.agg [(.agg [(.agg [zD0, zD1, zD2, zD3, zD4] : DataW H), (.agg [zD5, zD6, zD7, zD8, zD9] : DataW H), (.agg [zD10, zD11, zD12, zD13, zD14] : DataW H)] : DataW H), zD15, zD16] : DataW H) ∧ (-9223372036854775808 ≤ z0 ∧ z0 ≤ 9223372036854775807) ∧ (-9223372036854775808 ≤ z1 ∧ z1 ≤ 9223372036854775807) ∧ (-9223372036854775808 ≤ z2 ∧ z2 ≤ 9223372036854775807) ∧ (-9223372036854775808 ≤ z3 ∧ z3 ≤ 9223372036854775807) ∧ (Rd w w.heap.size .i64 zA4 zn4 zl4 ∧ zn4 ≤ zc4 ∧ zc4 ≤ maxLen ∧ (zD4 = .nil ∧ zn4 = 0 ∨ ∃ elems spare, zD4 = .slice elems spare ∧ elems.length = zn4)) ∧ (-9223372036854775808 ≤ z5 ∧ z5 ≤ 9223372036854775807) ∧ (-9223372036854775808 ≤ z6 ∧ z6 ≤ 9223372036854775807) ∧ (-9223372036854775808 ≤ z7 ∧ z7 ≤ 9223372036854775807) ∧ (-9223372036854775808 ≤ z8 ∧ z8 ≤ 9223372036854775807) ∧ (Rd w w.heap.size .i64 zA9 zn9 zl9 ∧ zn9 ≤ zc9 ∧ zc9 ≤ maxLen ∧ (zD9 = .nil ∧ zn9 = 0 ∨ ∃ elems spare, zD9 = .slice elems spare ∧ elems.length = zn9)) ∧ (-9223372036854775808 ≤ z10 ∧ z10 ≤ 9223372036854775807) ∧ (-9223372036854775808 ≤ z11 ∧ z11 ≤ 9223372036854775807) ∧ (-9223372036854775808 ≤ z12 ∧ z12 ≤ 9223372036854775807) ∧ (-9223372036854775808 ≤ z13 ∧ z13 ≤ 9223372036854775807) ∧ (Rd w w.heap.size .i64 zA14 zn14 zl14 ∧ zn14 ≤ zc14 ∧ zc14 ≤ maxLen ∧ (zD14 = .nil ∧ zn14 = 0 ∨ ∃ elems spare, zD14 = .slice elems spare ∧ elems.length = zn14)) ∧ (-9223372036854775808 ≤ z15 ∧ z15 ≤ 9223372036854775807) ∧ True := by
  obtain ⟨xs, m, _, hx0, hcl, hlen, hx⟩ := DataW.trod_struct Try.underlying36 h
  rw [show Try.prog.cellsOf 36 = 17 from by kernel_rfl] at hcl
  obtain ⟨v0, v1, v2, v3, v4, v5, v6, v7, v8, v9, v10, v11, v12, v13, v14, v15, v16, rfl⟩ := lst17 hcl
  obtain ⟨y0, y1, y2, rfl⟩ := lst3 (hlen.trans rfl)
  have h0 : DataW.trod enc Try.prog w base spare held m 34 [v0, v1, v2, v3, v4, v5, v6, v7, v8, v9, v10, v11, v12, v13, v14] = some y0 := by
    have q := hx 0 _ rfl
    have q2 : DataW.trod enc Try.prog w base spare held m 34 (List.take (Try.prog.cellsOf 34) (List.drop 0 [v0, v1, v2, v3, v4, v5, v6, v7, v8, v9, v10, v11, v12, v13, v14, v15, v16])) = some y0 := q
    rw [show Try.prog.cellsOf 34 = 15 from by kernel_rfl] at q2
    exact q2
  have h1 : DataW.trod enc Try.prog w base spare held m 3 [v15] = some y1 := by
    have q := hx 1 _ rfl
    have q2 : DataW.trod enc Try.prog w base spare held m 3 (List.take (Try.prog.cellsOf 3) (List.drop 15 [v0, v1, v2, v3, v4, v5, v6, v7, v8, v9, v10, v11, v12, v13, v14, v15, v16])) = some y1 := q
    rw [show Try.prog.cellsOf 3 = 1 from by kernel_rfl] at q2
    exact q2
  have h2 : DataW.trod enc Try.prog w base spare held m 4 [v16] = some y2 := by
    have q := hx 2 _ rfl
    have q2 : DataW.trod enc Try.prog w base spare held m 4 (List.take (Try.prog.cellsOf 4) (List.drop 16 [v0, v1, v2, v3, v4, v5, v6, v7, v8, v9, v10, v11, v12, v13, v14, v15, v16])) = some y2 := q
    rw [show Try.prog.cellsOf 4 = 1 from by kernel_rfl] at q2
    exact q2
  obtain ⟨u0_0, u0_1, u0_2, u0_3, u0_A4, u0_n4, u0_c4, u0_l4, u0_5, u0_6, u0_7, u0_8, u0_A9, u0_n9, u0_c9, u0_l9, u0_10, u0_11, u0_12, u0_13, u0_A14, u0_n14, u0_c14, u0_l14, u0_D0, u0_D1, u0_D2, u0_D3, u0_D4, u0_D5, u0_D6, u0_D7, u0_D8, u0_D9, u0_D10, u0_D11, u0_D12, u0_D13, u0_D14, e0, q0, g0_0, g0_1, g0_2, g0_3, g0_4, g0_5, g0_6, g0_7, g0_8, g0_9, g0_10, g0_11, g0_12, g0_13, g0_14, _⟩ := tr_a_3_api_ScreenVertex h0
  simp only [List.cons.injEq, and_true] at e0
  obtain ⟨rfl, rfl, rfl, rfl, rfl, rfl, rfl, rfl, rfl, rfl, rfl, rfl, rfl, rfl, rfl⟩ := e0
  obtain ⟨z15, rfl, r15a, r15b⟩ := tr_i64 Try.underlying3 h1
  obtain ⟨z16, rfl⟩ := tr_bool Try.underlying4 h2
  exact ⟨u0_0, u0_1, u0_2, u0_3, u0_A4, u0_n4, u0_c4, u0_l4, u0_5, u0_6, u0_7, u0_8, u0_A9, u0_n9, u0_c9, u0_l9, u0_10, u0_11, u0_12, u0_13, u0_A14, u0_n14, u0_c14, u0_l14, z15, z16, u0_D0, u0_D1, u0_D2, u0_D3, u0_D4, u0_D5, u0_D6, u0_D7, u0_D8, u0_D9, u0_D10, u0_D11, u0_D12, u0_D13, u0_D14, y1.1, y2.1, rfl, by rw [hx0]; simp only [List.map_cons, List.map_nil, q0], g0_0, g0_1, g0_2, g0_3, g0_4, g0_5, g0_6, g0_7, g0_8, g0_9, g0_10, g0_11, g0_12, g0_13, g0_14, ⟨r15a, r15b⟩, trivial⟩

theorem open_tri {H : Type} {enc : TypeId × Value → H} {w : World} {base : Nat} {spare : Nat → Bool} {held : Bool} {r : Reach} {b0 : Nat} {v : Value} {d : DataW H} {p : List MemPlace} (hv : Value.okWide Try.prog w r b0 36 v) (h : DataW.Trod enc Try.prog w base spare held 36 v d p) :
    ∃ (z0 : Int) (z1 : Int) (z2 : Int) (z3 : Int) (zA4 : Option Addr) (zn4 : Nat) (zc4 : Nat) (zl4 : List Int) (z5 : Int) (z6 : Int) (z7 : Int) (z8 : Int) (zA9 : Option Addr) (zn9 : Nat) (zc9 : Nat) (zl9 : List Int) (z10 : Int) (z11 : Int) (z12 : Int) (z13 : Int) (zA14 : Option Addr) (zn14 : Nat) (zc14 : Nat) (zl14 : List Int) (z15 : Int) (z16 : Bool) (zD0 : DataW H) (zD1 : DataW H) (zD2 : DataW H) (zD3 : DataW H) (zD4 : DataW H) (zD5 : DataW H) (zD6 : DataW H) (zD7 : DataW H) (zD8 : DataW H) (zD9 : DataW H) (zD10 : DataW H) (zD11 : DataW H) (zD12 : DataW H) (zD13 : DataW H) (zD14 : DataW H) (zD15 : DataW H) (zD16 : DataW H), v = .agg #[.int .i64 z0, .int .i64 z1, .int .i64 z2, .int .i64 z3, .slice zA4 zn4 zc4, .int .i64 z5, .int .i64 z6, .int .i64 z7, .int .i64 z8, .slice zA9 zn9 zc9, .int .i64 z10, .int .i64 z11, .int .i64 z12, .int .i64 z13, .slice zA14 zn14 zc14, .int .i64 z15, .bool z16] ∧ d = (.agg [(.agg [(.agg [zD0, zD1, zD2, zD3, zD4] : DataW H), (.agg [zD5, zD6, zD7, zD8, zD9] : DataW H), (.agg [zD10, zD11, zD12, zD13, zD14] : DataW H)] : DataW H), zD15, zD16] : DataW H) ∧ (-9223372036854775808 ≤ z0 ∧ z0 ≤ 9223372036854775807) ∧ (-9223372036854775808 ≤ z1 ∧ z1 ≤ 9223372036854775807) ∧ (-9223372036854775808 ≤ z2 ∧ z2 ≤ 9223372036854775807) ∧ (-9223372036854775808 ≤ z3 ∧ z3 ≤ 9223372036854775807) ∧ (Rd w w.heap.size .i64 zA4 zn4 zl4 ∧ zn4 ≤ zc4 ∧ zc4 ≤ maxLen ∧ (zD4 = .nil ∧ zn4 = 0 ∨ ∃ elems spare, zD4 = .slice elems spare ∧ elems.length = zn4)) ∧ (-9223372036854775808 ≤ z5 ∧ z5 ≤ 9223372036854775807) ∧ (-9223372036854775808 ≤ z6 ∧ z6 ≤ 9223372036854775807) ∧ (-9223372036854775808 ≤ z7 ∧ z7 ≤ 9223372036854775807) ∧ (-9223372036854775808 ≤ z8 ∧ z8 ≤ 9223372036854775807) ∧ (Rd w w.heap.size .i64 zA9 zn9 zl9 ∧ zn9 ≤ zc9 ∧ zc9 ≤ maxLen ∧ (zD9 = .nil ∧ zn9 = 0 ∨ ∃ elems spare, zD9 = .slice elems spare ∧ elems.length = zn9)) ∧ (-9223372036854775808 ≤ z10 ∧ z10 ≤ 9223372036854775807) ∧ (-9223372036854775808 ≤ z11 ∧ z11 ≤ 9223372036854775807) ∧ (-9223372036854775808 ≤ z12 ∧ z12 ≤ 9223372036854775807) ∧ (-9223372036854775808 ≤ z13 ∧ z13 ≤ 9223372036854775807) ∧ (Rd w w.heap.size .i64 zA14 zn14 zl14 ∧ zn14 ≤ zc14 ∧ zc14 ≤ maxLen ∧ (zD14 = .nil ∧ zn14 = 0 ∨ ∃ elems spare, zD14 = .slice elems spare ∧ elems.length = zn14)) ∧ (-9223372036854775808 ≤ z15 ∧ z15 ≤ 9223372036854775807) ∧ True := by
  obtain ⟨cs, rfl, hsz⟩ := okWide_struct Try.underlying36 hv
  obtain ⟨fuel, hf⟩ := h
  obtain ⟨z0, z1, z2, z3, zA4, zn4, zc4, zl4, z5, z6, z7, z8, zA9, zn9, zc9, zl9, z10, z11, z12, z13, zA14, zn14, zc14, zl14, z15, z16, zD0, zD1, zD2, zD3, zD4, zD5, zD6, zD7, zD8, zD9, zD10, zD11, zD12, zD13, zD14, zD15, zD16, e, qd, g0, g1, g2, g3, g4, g5, g6, g7, g8, g9, g10, g11, g12, g13, g14, g15, _⟩ := tr_Triangle hf
  obtain ⟨l⟩ := cs
  simp only [Value.cells] at e
  subst e
  exact ⟨z0, z1, z2, z3, zA4, zn4, zc4, zl4, z5, z6, z7, z8, zA9, zn9, zc9, zl9, z10, z11, z12, z13, zA14, zn14, zc14, zl14, z15, z16, zD0, zD1, zD2, zD3, zD4, zD5, zD6, zD7, zD8, zD9, zD10, zD11, zD12, zD13, zD14, zD15, zD16, rfl, qd, g0, g1, g2, g3, g4, g5, g6, g7, g8, g9, g10, g11, g12, g13, g14, g15, trivial⟩

end Go.Proofs.Ytcnemjkcihlpeaa
