/- The openings of a stencil state, of a case. -/
import Derived.Test.YtigjamfnekaeeaaST3
import Derived.WalkKit
import Derived.ProofKit
import Derived.OpenShut
import Derived.Carry
import Derived.SizedLaws
import Derived.Lib.SmallJoins
namespace Go.Proofs.Ytigjamfnekaeeaa
set_option linter.unusedSimpArgs false
open Go.RowKit Go.ChangeShapes Go.WideShapes Go.ChangeAt Go.Joins
set_option linter.unusedVariables false

theorem tr_i64 {H : Type} {enc : TypeId × Value → H} {w : World} {base : Nat} {spare : Nat → Bool} {held : Bool} {P : Program} {n : Nat} {t : TypeId} {v : Value} {x : DataW H × List MemPlace} (ht : P.underlying t = some (.int .i64)) (h : DataW.trod enc P w base spare held n t [v] = some x) : ∃ z : Int, v = .int .i64 z ∧ -9223372036854775808 ≤ z ∧ z ≤ 9223372036854775807 := by
  obtain ⟨z, e, _, hw⟩ := DataW.trod_int ht h
  simp only [List.cons.injEq, and_true] at e
  exact ⟨z, e, (Lit.wf_int_iff .i64 z).1 hw⟩

theorem tr_bool {H : Type} {enc : TypeId × Value → H} {w : World} {base : Nat} {spare : Nat → Bool} {held : Bool} {P : Program} {n : Nat} {t : TypeId} {v : Value} {x : DataW H × List MemPlace} (ht : P.underlying t = some .bool) (h : DataW.trod enc P w base spare held n t [v] = some x) : ∃ z : Bool, v = .bool z := by
  obtain ⟨z, e, _⟩ := DataW.trod_bool ht h
  simp only [List.cons.injEq, and_true] at e
  exact ⟨z, e⟩

theorem lst4 {α : Type} {l : List α} (h : l.length = 4) : ∃ v0 v1 v2 v3, l = [v0, v1, v2, v3] := by
  match l, h with
  | [v0, v1, v2, v3], _ => exact ⟨v0, v1, v2, v3, rfl⟩

theorem tr_StencilFace {H : Type} {enc : TypeId × Value → H} {w : World} {base : Nat} {spare : Nat → Bool} {held : Bool} {n : Nat} {cs : List Value} {x : DataW H × List MemPlace} (h : DataW.trod enc Try.prog w base spare held n 25 cs = some x) :
    ∃ (z0 : Int) (z1 : Int) (z2 : Int) (z3 : Int), cs = [.int .i64 z0, .int .i64 z1, .int .i64 z2, .int .i64 z3] ∧ (-9223372036854775808 ≤ z0 ∧ z0 ≤ 9223372036854775807) ∧ (-9223372036854775808 ≤ z1 ∧ z1 ≤ 9223372036854775807) ∧ (-9223372036854775808 ≤ z2 ∧ z2 ≤ 9223372036854775807) ∧ (-9223372036854775808 ≤ z3 ∧ z3 ≤ 9223372036854775807) ∧ True := by
  obtain ⟨xs, m, _, _, hcl, hlen, hx⟩ := DataW.trod_struct Try.underlying25 h
  rw [show Try.prog.cellsOf 25 = 4 from by kernel_rfl] at hcl
  obtain ⟨v0, v1, v2, v3, rfl⟩ := lst4 hcl
  obtain ⟨y0, y1, y2, y3, rfl⟩ := lst4 (hlen.trans rfl)
  have h0 : DataW.trod enc Try.prog w base spare held m 22 [v0] = some y0 := by
    have q := hx 0 _ rfl
    have q2 : DataW.trod enc Try.prog w base spare held m 22 (List.take (Try.prog.cellsOf 22) (List.drop 0 [v0, v1, v2, v3])) = some y0 := q
    rw [show Try.prog.cellsOf 22 = 1 from by kernel_rfl] at q2
    exact q2
  have h1 : DataW.trod enc Try.prog w base spare held m 23 [v1] = some y1 := by
    have q := hx 1 _ rfl
    have q2 : DataW.trod enc Try.prog w base spare held m 23 (List.take (Try.prog.cellsOf 23) (List.drop 1 [v0, v1, v2, v3])) = some y1 := q
    rw [show Try.prog.cellsOf 23 = 1 from by kernel_rfl] at q2
    exact q2
  have h2 : DataW.trod enc Try.prog w base spare held m 23 [v2] = some y2 := by
    have q := hx 2 _ rfl
    have q2 : DataW.trod enc Try.prog w base spare held m 23 (List.take (Try.prog.cellsOf 23) (List.drop 2 [v0, v1, v2, v3])) = some y2 := q
    rw [show Try.prog.cellsOf 23 = 1 from by kernel_rfl] at q2
    exact q2
  have h3 : DataW.trod enc Try.prog w base spare held m 23 [v3] = some y3 := by
    have q := hx 3 _ rfl
    have q2 : DataW.trod enc Try.prog w base spare held m 23 (List.take (Try.prog.cellsOf 23) (List.drop 3 [v0, v1, v2, v3])) = some y3 := q
    rw [show Try.prog.cellsOf 23 = 1 from by kernel_rfl] at q2
    exact q2
  obtain ⟨z0, rfl, r0a, r0b⟩ := tr_i64 Try.underlying22 h0
  obtain ⟨z1, rfl, r1a, r1b⟩ := tr_i64 Try.underlying23 h1
  obtain ⟨z2, rfl, r2a, r2b⟩ := tr_i64 Try.underlying23 h2
  obtain ⟨z3, rfl, r3a, r3b⟩ := tr_i64 Try.underlying23 h3
  exact ⟨z0, z1, z2, z3, rfl, ⟨r0a, r0b⟩, ⟨r1a, r1b⟩, ⟨r2a, r2b⟩, ⟨r3a, r3b⟩, trivial⟩

theorem lst6 {α : Type} {l : List α} (h : l.length = 6) : ∃ v0 v1 v2 v3 v4 v5, l = [v0, v1, v2, v3, v4, v5] := by
  match l, h with
  | [v0, v1, v2, v3, v4, v5], _ => exact ⟨v0, v1, v2, v3, v4, v5, rfl⟩

theorem lst12 {α : Type} {l : List α} (h : l.length = 12) : ∃ v0 v1 v2 v3 v4 v5 v6 v7 v8 v9 v10 v11, l = [v0, v1, v2, v3, v4, v5, v6, v7, v8, v9, v10, v11] := by
  match l, h with
  | [v0, v1, v2, v3, v4, v5, v6, v7, v8, v9, v10, v11], _ => exact ⟨v0, v1, v2, v3, v4, v5, v6, v7, v8, v9, v10, v11, rfl⟩

theorem tr_StencilState {H : Type} {enc : TypeId × Value → H} {w : World} {base : Nat} {spare : Nat → Bool} {held : Bool} {n : Nat} {cs : List Value} {x : DataW H × List MemPlace} (h : DataW.trod enc Try.prog w base spare held n 27 cs = some x) :
    ∃ (z0 : Bool) (z1 : Int) (z2 : Int) (z3 : Int) (z4 : Int) (z5 : Int) (z6 : Int) (z7 : Int) (z8 : Int) (z9 : Int) (z10 : Int) (z11 : Int), cs = [.bool z0, .int .i64 z1, .int .i64 z2, .int .i64 z3, .int .i64 z4, .int .i64 z5, .int .i64 z6, .int .i64 z7, .int .i64 z8, .int .i64 z9, .int .i64 z10, .int .i64 z11] ∧ (-9223372036854775808 ≤ z1 ∧ z1 ≤ 9223372036854775807) ∧ (-9223372036854775808 ≤ z2 ∧ z2 ≤ 9223372036854775807) ∧ (-9223372036854775808 ≤ z3 ∧ z3 ≤ 9223372036854775807) ∧ (-9223372036854775808 ≤ z4 ∧ z4 ≤ 9223372036854775807) ∧ (-9223372036854775808 ≤ z5 ∧ z5 ≤ 9223372036854775807) ∧ (-9223372036854775808 ≤ z6 ∧ z6 ≤ 9223372036854775807) ∧ (-9223372036854775808 ≤ z7 ∧ z7 ≤ 9223372036854775807) ∧ (-9223372036854775808 ≤ z8 ∧ z8 ≤ 9223372036854775807) ∧ (-9223372036854775808 ≤ z9 ∧ z9 ≤ 9223372036854775807) ∧ (-9223372036854775808 ≤ z10 ∧ z10 ≤ 9223372036854775807) ∧ (-9223372036854775808 ≤ z11 ∧ z11 ≤ 9223372036854775807) ∧ True := by
  obtain ⟨xs, m, _, _, hcl, hlen, hx⟩ := DataW.trod_struct Try.underlying27 h
  rw [show Try.prog.cellsOf 27 = 12 from by kernel_rfl] at hcl
  obtain ⟨v0, v1, v2, v3, v4, v5, v6, v7, v8, v9, v10, v11, rfl⟩ := lst12 hcl
  obtain ⟨y0, y1, y2, y3, y4, y5, rfl⟩ := lst6 (hlen.trans rfl)
  have h0 : DataW.trod enc Try.prog w base spare held m 4 [v0] = some y0 := by
    have q := hx 0 _ rfl
    have q2 : DataW.trod enc Try.prog w base spare held m 4 (List.take (Try.prog.cellsOf 4) (List.drop 0 [v0, v1, v2, v3, v4, v5, v6, v7, v8, v9, v10, v11])) = some y0 := q
    rw [show Try.prog.cellsOf 4 = 1 from by kernel_rfl] at q2
    exact q2
  have h1 : DataW.trod enc Try.prog w base spare held m 25 [v1, v2, v3, v4] = some y1 := by
    have q := hx 1 _ rfl
    have q2 : DataW.trod enc Try.prog w base spare held m 25 (List.take (Try.prog.cellsOf 25) (List.drop 1 [v0, v1, v2, v3, v4, v5, v6, v7, v8, v9, v10, v11])) = some y1 := q
    rw [show Try.prog.cellsOf 25 = 4 from by kernel_rfl] at q2
    exact q2
  have h2 : DataW.trod enc Try.prog w base spare held m 25 [v5, v6, v7, v8] = some y2 := by
    have q := hx 2 _ rfl
    have q2 : DataW.trod enc Try.prog w base spare held m 25 (List.take (Try.prog.cellsOf 25) (List.drop 5 [v0, v1, v2, v3, v4, v5, v6, v7, v8, v9, v10, v11])) = some y2 := q
    rw [show Try.prog.cellsOf 25 = 4 from by kernel_rfl] at q2
    exact q2
  have h3 : DataW.trod enc Try.prog w base spare held m 3 [v9] = some y3 := by
    have q := hx 3 _ rfl
    have q2 : DataW.trod enc Try.prog w base spare held m 3 (List.take (Try.prog.cellsOf 3) (List.drop 9 [v0, v1, v2, v3, v4, v5, v6, v7, v8, v9, v10, v11])) = some y3 := q
    rw [show Try.prog.cellsOf 3 = 1 from by kernel_rfl] at q2
    exact q2
  have h4 : DataW.trod enc Try.prog w base spare held m 3 [v10] = some y4 := by
    have q := hx 4 _ rfl
    have q2 : DataW.trod enc Try.prog w base spare held m 3 (List.take (Try.prog.cellsOf 3) (List.drop 10 [v0, v1, v2, v3, v4, v5, v6, v7, v8, v9, v10, v11])) = some y4 := q
    rw [show Try.prog.cellsOf 3 = 1 from by kernel_rfl] at q2
    exact q2
  have h5 : DataW.trod enc Try.prog w base spare held m 3 [v11] = some y5 := by
    have q := hx 5 _ rfl
    have q2 : DataW.trod enc Try.prog w base spare held m 3 (List.take (Try.prog.cellsOf 3) (List.drop 11 [v0, v1, v2, v3, v4, v5, v6, v7, v8, v9, v10, v11])) = some y5 := q
    rw [show Try.prog.cellsOf 3 = 1 from by kernel_rfl] at q2
    exact q2
  obtain ⟨z0, rfl⟩ := tr_bool Try.underlying4 h0
  obtain ⟨u1_0, u1_1, u1_2, u1_3, e1, g1_0, g1_1, g1_2, g1_3, _⟩ := tr_StencilFace h1
  simp only [List.cons.injEq, and_true] at e1
  obtain ⟨rfl, rfl, rfl, rfl⟩ := e1
  obtain ⟨u2_0, u2_1, u2_2, u2_3, e2, g2_0, g2_1, g2_2, g2_3, _⟩ := tr_StencilFace h2
  simp only [List.cons.injEq, and_true] at e2
  obtain ⟨rfl, rfl, rfl, rfl⟩ := e2
  obtain ⟨z9, rfl, r9a, r9b⟩ := tr_i64 Try.underlying3 h3
  obtain ⟨z10, rfl, r10a, r10b⟩ := tr_i64 Try.underlying3 h4
  obtain ⟨z11, rfl, r11a, r11b⟩ := tr_i64 Try.underlying3 h5
  exact ⟨z0, u1_0, u1_1, u1_2, u1_3, u2_0, u2_1, u2_2, u2_3, z9, z10, z11, rfl, g1_0, g1_1, g1_2, g1_3, g2_0, g2_1, g2_2, g2_3, ⟨r9a, r9b⟩, ⟨r10a, r10b⟩, ⟨r11a, r11b⟩, trivial⟩

theorem lst5 {α : Type} {l : List α} (h : l.length = 5) : ∃ v0 v1 v2 v3 v4, l = [v0, v1, v2, v3, v4] := by
  match l, h with
  | [v0, v1, v2, v3, v4], _ => exact ⟨v0, v1, v2, v3, v4, rfl⟩

theorem lst16 {α : Type} {l : List α} (h : l.length = 16) : ∃ v0 v1 v2 v3 v4 v5 v6 v7 v8 v9 v10 v11 v12 v13 v14 v15, l = [v0, v1, v2, v3, v4, v5, v6, v7, v8, v9, v10, v11, v12, v13, v14, v15] := by
  match l, h with
  | [v0, v1, v2, v3, v4, v5, v6, v7, v8, v9, v10, v11, v12, v13, v14, v15], _ => exact ⟨v0, v1, v2, v3, v4, v5, v6, v7, v8, v9, v10, v11, v12, v13, v14, v15, rfl⟩

theorem tr_Case {H : Type} {enc : TypeId × Value → H} {w : World} {base : Nat} {spare : Nat → Bool} {held : Bool} {n : Nat} {cs : List Value} {x : DataW H × List MemPlace} (h : DataW.trod enc Try.prog w base spare held n 29 cs = some x) :
    ∃ (z0 : Bool) (z1 : Int) (z2 : Int) (z3 : Int) (z4 : Int) (z5 : Int) (z6 : Int) (z7 : Int) (z8 : Int) (z9 : Int) (z10 : Int) (z11 : Int) (z12 : Bool) (z13 : Int) (z14 : Bool) (z15 : Bool), cs = [.bool z0, .int .i64 z1, .int .i64 z2, .int .i64 z3, .int .i64 z4, .int .i64 z5, .int .i64 z6, .int .i64 z7, .int .i64 z8, .int .i64 z9, .int .i64 z10, .int .i64 z11, .bool z12, .int .i64 z13, .bool z14, .bool z15] ∧ (-9223372036854775808 ≤ z1 ∧ z1 ≤ 9223372036854775807) ∧ (-9223372036854775808 ≤ z2 ∧ z2 ≤ 9223372036854775807) ∧ (-9223372036854775808 ≤ z3 ∧ z3 ≤ 9223372036854775807) ∧ (-9223372036854775808 ≤ z4 ∧ z4 ≤ 9223372036854775807) ∧ (-9223372036854775808 ≤ z5 ∧ z5 ≤ 9223372036854775807) ∧ (-9223372036854775808 ≤ z6 ∧ z6 ≤ 9223372036854775807) ∧ (-9223372036854775808 ≤ z7 ∧ z7 ≤ 9223372036854775807) ∧ (-9223372036854775808 ≤ z8 ∧ z8 ≤ 9223372036854775807) ∧ (-9223372036854775808 ≤ z9 ∧ z9 ≤ 9223372036854775807) ∧ (-9223372036854775808 ≤ z10 ∧ z10 ≤ 9223372036854775807) ∧ (-9223372036854775808 ≤ z11 ∧ z11 ≤ 9223372036854775807) ∧ (-9223372036854775808 ≤ z13 ∧ z13 ≤ 9223372036854775807) ∧ True := by
  obtain ⟨xs, m, _, _, hcl, hlen, hx⟩ := DataW.trod_struct Try.underlying29 h
  rw [show Try.prog.cellsOf 29 = 16 from by kernel_rfl] at hcl
  obtain ⟨v0, v1, v2, v3, v4, v5, v6, v7, v8, v9, v10, v11, v12, v13, v14, v15, rfl⟩ := lst16 hcl
  obtain ⟨y0, y1, y2, y3, y4, rfl⟩ := lst5 (hlen.trans rfl)
  have h0 : DataW.trod enc Try.prog w base spare held m 27 [v0, v1, v2, v3, v4, v5, v6, v7, v8, v9, v10, v11] = some y0 := by
    have q := hx 0 _ rfl
    have q2 : DataW.trod enc Try.prog w base spare held m 27 (List.take (Try.prog.cellsOf 27) (List.drop 0 [v0, v1, v2, v3, v4, v5, v6, v7, v8, v9, v10, v11, v12, v13, v14, v15])) = some y0 := q
    rw [show Try.prog.cellsOf 27 = 12 from by kernel_rfl] at q2
    exact q2
  have h1 : DataW.trod enc Try.prog w base spare held m 4 [v12] = some y1 := by
    have q := hx 1 _ rfl
    have q2 : DataW.trod enc Try.prog w base spare held m 4 (List.take (Try.prog.cellsOf 4) (List.drop 12 [v0, v1, v2, v3, v4, v5, v6, v7, v8, v9, v10, v11, v12, v13, v14, v15])) = some y1 := q
    rw [show Try.prog.cellsOf 4 = 1 from by kernel_rfl] at q2
    exact q2
  have h2 : DataW.trod enc Try.prog w base spare held m 3 [v13] = some y2 := by
    have q := hx 2 _ rfl
    have q2 : DataW.trod enc Try.prog w base spare held m 3 (List.take (Try.prog.cellsOf 3) (List.drop 13 [v0, v1, v2, v3, v4, v5, v6, v7, v8, v9, v10, v11, v12, v13, v14, v15])) = some y2 := q
    rw [show Try.prog.cellsOf 3 = 1 from by kernel_rfl] at q2
    exact q2
  have h3 : DataW.trod enc Try.prog w base spare held m 4 [v14] = some y3 := by
    have q := hx 3 _ rfl
    have q2 : DataW.trod enc Try.prog w base spare held m 4 (List.take (Try.prog.cellsOf 4) (List.drop 14 [v0, v1, v2, v3, v4, v5, v6, v7, v8, v9, v10, v11, v12, v13, v14, v15])) = some y3 := q
    rw [show Try.prog.cellsOf 4 = 1 from by kernel_rfl] at q2
    exact q2
  have h4 : DataW.trod enc Try.prog w base spare held m 4 [v15] = some y4 := by
    have q := hx 4 _ rfl
    have q2 : DataW.trod enc Try.prog w base spare held m 4 (List.take (Try.prog.cellsOf 4) (List.drop 15 [v0, v1, v2, v3, v4, v5, v6, v7, v8, v9, v10, v11, v12, v13, v14, v15])) = some y4 := q
    rw [show Try.prog.cellsOf 4 = 1 from by kernel_rfl] at q2
    exact q2
  obtain ⟨u0_0, u0_1, u0_2, u0_3, u0_4, u0_5, u0_6, u0_7, u0_8, u0_9, u0_10, u0_11, e0, g0_0, g0_1, g0_2, g0_3, g0_4, g0_5, g0_6, g0_7, g0_8, g0_9, g0_10, _⟩ := tr_StencilState h0
  simp only [List.cons.injEq, and_true] at e0
  obtain ⟨rfl, rfl, rfl, rfl, rfl, rfl, rfl, rfl, rfl, rfl, rfl, rfl⟩ := e0
  obtain ⟨z12, rfl⟩ := tr_bool Try.underlying4 h1
  obtain ⟨z13, rfl, r13a, r13b⟩ := tr_i64 Try.underlying3 h2
  obtain ⟨z14, rfl⟩ := tr_bool Try.underlying4 h3
  obtain ⟨z15, rfl⟩ := tr_bool Try.underlying4 h4
  exact ⟨u0_0, u0_1, u0_2, u0_3, u0_4, u0_5, u0_6, u0_7, u0_8, u0_9, u0_10, u0_11, z12, z13, z14, z15, rfl, g0_0, g0_1, g0_2, g0_3, g0_4, g0_5, g0_6, g0_7, g0_8, g0_9, g0_10, ⟨r13a, r13b⟩, trivial⟩

theorem open_case39 {H : Type} {enc : TypeId × Value → H} {w : World} {base : Nat} {spare : Nat → Bool} {held : Bool} {r : Reach} {b0 : Nat} {v : Value} {d : DataW H} {p : List MemPlace} (hv : Value.okWide Try.prog w r b0 29 v) (h : DataW.Trod enc Try.prog w base spare held 29 v d p) :
    ∃ (z0 : Bool) (z1 : Int) (z2 : Int) (z3 : Int) (z4 : Int) (z5 : Int) (z6 : Int) (z7 : Int) (z8 : Int) (z9 : Int) (z10 : Int) (z11 : Int) (z12 : Bool) (z13 : Int) (z14 : Bool) (z15 : Bool), v = .agg #[.bool z0, .int .i64 z1, .int .i64 z2, .int .i64 z3, .int .i64 z4, .int .i64 z5, .int .i64 z6, .int .i64 z7, .int .i64 z8, .int .i64 z9, .int .i64 z10, .int .i64 z11, .bool z12, .int .i64 z13, .bool z14, .bool z15] ∧ (-9223372036854775808 ≤ z1 ∧ z1 ≤ 9223372036854775807) ∧ (-9223372036854775808 ≤ z2 ∧ z2 ≤ 9223372036854775807) ∧ (-9223372036854775808 ≤ z3 ∧ z3 ≤ 9223372036854775807) ∧ (-9223372036854775808 ≤ z4 ∧ z4 ≤ 9223372036854775807) ∧ (-9223372036854775808 ≤ z5 ∧ z5 ≤ 9223372036854775807) ∧ (-9223372036854775808 ≤ z6 ∧ z6 ≤ 9223372036854775807) ∧ (-9223372036854775808 ≤ z7 ∧ z7 ≤ 9223372036854775807) ∧ (-9223372036854775808 ≤ z8 ∧ z8 ≤ 9223372036854775807) ∧ (-9223372036854775808 ≤ z9 ∧ z9 ≤ 9223372036854775807) ∧ (-9223372036854775808 ≤ z10 ∧ z10 ≤ 9223372036854775807) ∧ (-9223372036854775808 ≤ z11 ∧ z11 ≤ 9223372036854775807) ∧ (-9223372036854775808 ≤ z13 ∧ z13 ≤ 9223372036854775807) ∧ True := by
  obtain ⟨cs, rfl, hsz⟩ := okWide_struct Try.underlying29 hv
  obtain ⟨fuel, hf⟩ := h
  obtain ⟨z0, z1, z2, z3, z4, z5, z6, z7, z8, z9, z10, z11, z12, z13, z14, z15, e, g0, g1, g2, g3, g4, g5, g6, g7, g8, g9, g10, g11, _⟩ := tr_Case hf
  obtain ⟨l⟩ := cs
  simp only [Value.cells] at e
  subst e
  exact ⟨z0, z1, z2, z3, z4, z5, z6, z7, z8, z9, z10, z11, z12, z13, z14, z15, rfl, g0, g1, g2, g3, g4, g5, g6, g7, g8, g9, g10, g11, trivial⟩

theorem open_state39 {H : Type} {enc : TypeId × Value → H} {w : World} {base : Nat} {spare : Nat → Bool} {held : Bool} {r : Reach} {b0 : Nat} {v : Value} {d : DataW H} {p : List MemPlace} (hv : Value.okWide Try.prog w r b0 27 v) (h : DataW.Trod enc Try.prog w base spare held 27 v d p) :
    ∃ (z0 : Bool) (z1 : Int) (z2 : Int) (z3 : Int) (z4 : Int) (z5 : Int) (z6 : Int) (z7 : Int) (z8 : Int) (z9 : Int) (z10 : Int) (z11 : Int), v = .agg #[.bool z0, .int .i64 z1, .int .i64 z2, .int .i64 z3, .int .i64 z4, .int .i64 z5, .int .i64 z6, .int .i64 z7, .int .i64 z8, .int .i64 z9, .int .i64 z10, .int .i64 z11] ∧ (-9223372036854775808 ≤ z1 ∧ z1 ≤ 9223372036854775807) ∧ (-9223372036854775808 ≤ z2 ∧ z2 ≤ 9223372036854775807) ∧ (-9223372036854775808 ≤ z3 ∧ z3 ≤ 9223372036854775807) ∧ (-9223372036854775808 ≤ z4 ∧ z4 ≤ 9223372036854775807) ∧ (-9223372036854775808 ≤ z5 ∧ z5 ≤ 9223372036854775807) ∧ (-9223372036854775808 ≤ z6 ∧ z6 ≤ 9223372036854775807) ∧ (-9223372036854775808 ≤ z7 ∧ z7 ≤ 9223372036854775807) ∧ (-9223372036854775808 ≤ z8 ∧ z8 ≤ 9223372036854775807) ∧ (-9223372036854775808 ≤ z9 ∧ z9 ≤ 9223372036854775807) ∧ (-9223372036854775808 ≤ z10 ∧ z10 ≤ 9223372036854775807) ∧ (-9223372036854775808 ≤ z11 ∧ z11 ≤ 9223372036854775807) ∧ True := by
  obtain ⟨cs, rfl, hsz⟩ := okWide_struct Try.underlying27 hv
  obtain ⟨fuel, hf⟩ := h
  obtain ⟨z0, z1, z2, z3, z4, z5, z6, z7, z8, z9, z10, z11, e, g0, g1, g2, g3, g4, g5, g6, g7, g8, g9, g10, _⟩ := tr_StencilState hf
  obtain ⟨l⟩ := cs
  simp only [Value.cells] at e
  subst e
  exact ⟨z0, z1, z2, z3, z4, z5, z6, z7, z8, z9, z10, z11, rfl, g0, g1, g2, g3, g4, g5, g6, g7, g8, g9, g10, trivial⟩

end Go.Proofs.Ytigjamfnekaeeaa
