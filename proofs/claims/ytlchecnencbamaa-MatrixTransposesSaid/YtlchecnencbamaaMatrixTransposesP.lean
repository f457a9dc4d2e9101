/- The law frustum/frustumlaw04.MatrixTransposes returns true for every input and leaves each argument as it was. No condition. -/
import Derived.Test.YtlchecnencbamaaRows
import Derived.Test.YtlchecnencbamaaM6
import Derived.WalkKit
import Derived.ProofKit
import Derived.OpenShut
import Derived.Carry
import Derived.Lib.SmallJoins
namespace Go.Proofs.Ytlchecnencbamaa.matrixTransposes
open Go.ChangeShapes Go.WideShapes Go.ChangeAt Go.RowKit Go.Joins
open Go.ChangeMaps (open_string shut_string)
set_option linter.unusedVariables false

theorem own : ownKnob Try.prog.godebug = none := by kernel_rfl
theorem laidOut : laidOutB Try.prog = true := by kernel_rfl
theorem cells_2 : Try.prog.cellsOf 25 = 4 := by kernel_rfl
theorem cellsI : Try.prog.cellsOf 3 = 1 := by kernel_rfl
theorem cells_0 : Try.prog.cellsOf 23 = 16 := by kernel_rfl
theorem cells_1 : Try.prog.cellsOf 23 = 16 := by kernel_rfl
theorem list16 {α : Type} (l : List α) (h : (⟨l⟩ : Array α).size = 16) : ∃ c0 c1 c2 c3 c4 c5 c6 c7 c8 c9 c10 c11 c12 c13 c14 c15, l = [c0, c1, c2, c3, c4, c5, c6, c7, c8, c9, c10, c11, c12, c13, c14, c15] := by
  match l, h with
  | [c0, c1, c2, c3, c4, c5, c6, c7, c8, c9, c10, c11, c12, c13, c14, c15], _ => exact ⟨c0, c1, c2, c3, c4, c5, c6, c7, c8, c9, c10, c11, c12, c13, c14, c15, rfl⟩

set_option maxRecDepth 100000 in
theorem lifted (os : Os) (started : os.Started) (H : Type) (enc : TypeId × Value → H) :
    ReturnsInHanded {} Try.checked os 7 .any (Rows.matrixTransposesSpec.pre6 enc Try.prog Try.f7 Rows.matrixTransposesRow.domain false) (Rows.matrixTransposesSpec.post enc Try.prog Try.f7 false true false false) := by
  refine returnsInHanded_of_change (C := Try.checked) own started (by kernel_rfl) Try.func7
    (ChangeSpec.witness6 (enc := enc) (C := Try.checked) false ⟨#[], #[.agg #[.int .i64 0, .int .i64 0, .int .i64 0, .int .i64 0, .int .i64 0, .int .i64 0, .int .i64 0, .int .i64 0, .int .i64 0, .int .i64 0, .int .i64 0, .int .i64 0, .int .i64 0, .int .i64 0, .int .i64 0, .int .i64 0], .agg #[.int .i64 0, .int .i64 0, .int .i64 0, .int .i64 0, .int .i64 0, .int .i64 0, .int .i64 0, .int .i64 0, .int .i64 0, .int .i64 0, .int .i64 0, .int .i64 0, .int .i64 0, .int .i64 0, .int .i64 0, .int .i64 0], .agg #[.int .i64 0, .int .i64 0, .int .i64 0, .int .i64 0]], []⟩ 8 (by kernel_rfl) (by kernel_rfl) (by kernel_rfl) (by kernel_rfl)) ?_
  intro W base args ds gs before hval0 hW hcnd _
  have hval : ∀ (j : Nat) t v, Try.f7.params[j]? = some t → args[j]? = some v → Value.okWide Try.prog W .any base t v := hval0
  have hW' := hW
  obtain ⟨p, q, hA0, hV, rfl, hfz, hnd⟩ := hW
  have hA : DataW.TrodAll enc Try.prog W 0 (fun _ => true) true Try.f7.params.toList args.toList ds p := hA0
  rw [Try.params7] at hA hval
  obtain ⟨v0, vs0, d0, ds0, p0, q0, hargs, rfl, rfl, h0, r0⟩ := trodAll_cons hA
  obtain ⟨v1, vs1, d1, ds1, p1, q1, rfl, rfl, rfl, h1, r1⟩ := trodAll_cons r0
  obtain ⟨v2, vs2, d2, ds2, p2, q2, rfl, rfl, rfl, h2, r2⟩ := trodAll_cons r1
  obtain ⟨rfl, rfl, rfl⟩ := trodAll_nil r2
  obtain rfl : args = #[v0, v1, v2] := by cases args; simp_all
  obtain ⟨rfl, rfl⟩ := trodVars_none hV
  have k0 := h0
  have lt0 : ∀ x ∈ p0, x.block < W.heap.size := by obtain ⟨m, hm⟩ := k0; exact DataW.trod_lt m _ _ _ hm
  obtain ⟨a0, rfl⟩ : ∃ m : Nat → Int, v0 = .agg (mats m) := by
    obtain ⟨cs, rfl, hsz, _⟩ : ∃ cs, v0 = .agg cs ∧ cs.size = Try.prog.cellsOf 23 ∧ Row.okWide Try.prog W .any base 23 cs := by
      have := hval 0 23 v0 rfl rfl
      simpa [Value.okWide, Try.underlying23] using this
    rw [cells_0] at hsz
    obtain ⟨l⟩ := cs
    obtain ⟨c0, c1, c2, c3, c4, c5, c6, c7, c8, c9, c10, c11, c12, c13, c14, c15, rfl⟩ := list16 l hsz
    obtain ⟨fuel, hf⟩ := h0
    obtain ⟨ys, m, _, _, _, hl, hy⟩ := Go.DataW.trod_array Try.underlying23 hf
    have hy0 := hy 0 (by omega)
    have hy1 := hy 1 (by omega)
    have hy2 := hy 2 (by omega)
    have hy3 := hy 3 (by omega)
    have hy4 := hy 4 (by omega)
    have hy5 := hy 5 (by omega)
    have hy6 := hy 6 (by omega)
    have hy7 := hy 7 (by omega)
    have hy8 := hy 8 (by omega)
    have hy9 := hy 9 (by omega)
    have hy10 := hy 10 (by omega)
    have hy11 := hy 11 (by omega)
    have hy12 := hy 12 (by omega)
    have hy13 := hy 13 (by omega)
    have hy14 := hy 14 (by omega)
    have hy15 := hy 15 (by omega)
    rw [List.getElem?_eq_getElem (by omega)] at hy0 hy1 hy2 hy3 hy4 hy5 hy6 hy7 hy8 hy9 hy10 hy11 hy12 hy13 hy14 hy15
    simp [cellsI, Value.cells] at hy0 hy1 hy2 hy3 hy4 hy5 hy6 hy7 hy8 hy9 hy10 hy11 hy12 hy13 hy14 hy15
    obtain ⟨z0, e0, _, _⟩ := DataW.trod_int Try.underlying3 hy0
    obtain ⟨z1, e1, _, _⟩ := DataW.trod_int Try.underlying3 hy1
    obtain ⟨z2, e2, _, _⟩ := DataW.trod_int Try.underlying3 hy2
    obtain ⟨z3, e3, _, _⟩ := DataW.trod_int Try.underlying3 hy3
    obtain ⟨z4, e4, _, _⟩ := DataW.trod_int Try.underlying3 hy4
    obtain ⟨z5, e5, _, _⟩ := DataW.trod_int Try.underlying3 hy5
    obtain ⟨z6, e6, _, _⟩ := DataW.trod_int Try.underlying3 hy6
    obtain ⟨z7, e7, _, _⟩ := DataW.trod_int Try.underlying3 hy7
    obtain ⟨z8, e8, _, _⟩ := DataW.trod_int Try.underlying3 hy8
    obtain ⟨z9, e9, _, _⟩ := DataW.trod_int Try.underlying3 hy9
    obtain ⟨z10, e10, _, _⟩ := DataW.trod_int Try.underlying3 hy10
    obtain ⟨z11, e11, _, _⟩ := DataW.trod_int Try.underlying3 hy11
    obtain ⟨z12, e12, _, _⟩ := DataW.trod_int Try.underlying3 hy12
    obtain ⟨z13, e13, _, _⟩ := DataW.trod_int Try.underlying3 hy13
    obtain ⟨z14, e14, _, _⟩ := DataW.trod_int Try.underlying3 hy14
    obtain ⟨z15, e15, _, _⟩ := DataW.trod_int Try.underlying3 hy15
    simp at e0 e1 e2 e3 e4 e5 e6 e7 e8 e9 e10 e11 e12 e13 e14 e15
    subst e0 e1 e2 e3 e4 e5 e6 e7 e8 e9 e10 e11 e12 e13 e14 e15
    exact ⟨ofl z0 z1 z2 z3 z4 z5 z6 z7 z8 z9 z10 z11 z12 z13 z14 z15, rfl⟩
  have k1 := h1
  have lt1 : ∀ x ∈ p1, x.block < W.heap.size := by obtain ⟨m, hm⟩ := k1; exact DataW.trod_lt m _ _ _ hm
  obtain ⟨a1, rfl⟩ : ∃ m : Nat → Int, v1 = .agg (mats m) := by
    obtain ⟨cs, rfl, hsz, _⟩ : ∃ cs, v1 = .agg cs ∧ cs.size = Try.prog.cellsOf 23 ∧ Row.okWide Try.prog W .any base 23 cs := by
      have := hval 1 23 v1 rfl rfl
      simpa [Value.okWide, Try.underlying23] using this
    rw [cells_1] at hsz
    obtain ⟨l⟩ := cs
    obtain ⟨c0, c1, c2, c3, c4, c5, c6, c7, c8, c9, c10, c11, c12, c13, c14, c15, rfl⟩ := list16 l hsz
    obtain ⟨fuel, hf⟩ := h1
    obtain ⟨ys, m, _, _, _, hl, hy⟩ := Go.DataW.trod_array Try.underlying23 hf
    have hy0 := hy 0 (by omega)
    have hy1 := hy 1 (by omega)
    have hy2 := hy 2 (by omega)
    have hy3 := hy 3 (by omega)
    have hy4 := hy 4 (by omega)
    have hy5 := hy 5 (by omega)
    have hy6 := hy 6 (by omega)
    have hy7 := hy 7 (by omega)
    have hy8 := hy 8 (by omega)
    have hy9 := hy 9 (by omega)
    have hy10 := hy 10 (by omega)
    have hy11 := hy 11 (by omega)
    have hy12 := hy 12 (by omega)
    have hy13 := hy 13 (by omega)
    have hy14 := hy 14 (by omega)
    have hy15 := hy 15 (by omega)
    rw [List.getElem?_eq_getElem (by omega)] at hy0 hy1 hy2 hy3 hy4 hy5 hy6 hy7 hy8 hy9 hy10 hy11 hy12 hy13 hy14 hy15
    simp [cellsI, Value.cells] at hy0 hy1 hy2 hy3 hy4 hy5 hy6 hy7 hy8 hy9 hy10 hy11 hy12 hy13 hy14 hy15
    obtain ⟨z0, e0, _, _⟩ := DataW.trod_int Try.underlying3 hy0
    obtain ⟨z1, e1, _, _⟩ := DataW.trod_int Try.underlying3 hy1
    obtain ⟨z2, e2, _, _⟩ := DataW.trod_int Try.underlying3 hy2
    obtain ⟨z3, e3, _, _⟩ := DataW.trod_int Try.underlying3 hy3
    obtain ⟨z4, e4, _, _⟩ := DataW.trod_int Try.underlying3 hy4
    obtain ⟨z5, e5, _, _⟩ := DataW.trod_int Try.underlying3 hy5
    obtain ⟨z6, e6, _, _⟩ := DataW.trod_int Try.underlying3 hy6
    obtain ⟨z7, e7, _, _⟩ := DataW.trod_int Try.underlying3 hy7
    obtain ⟨z8, e8, _, _⟩ := DataW.trod_int Try.underlying3 hy8
    obtain ⟨z9, e9, _, _⟩ := DataW.trod_int Try.underlying3 hy9
    obtain ⟨z10, e10, _, _⟩ := DataW.trod_int Try.underlying3 hy10
    obtain ⟨z11, e11, _, _⟩ := DataW.trod_int Try.underlying3 hy11
    obtain ⟨z12, e12, _, _⟩ := DataW.trod_int Try.underlying3 hy12
    obtain ⟨z13, e13, _, _⟩ := DataW.trod_int Try.underlying3 hy13
    obtain ⟨z14, e14, _, _⟩ := DataW.trod_int Try.underlying3 hy14
    obtain ⟨z15, e15, _, _⟩ := DataW.trod_int Try.underlying3 hy15
    simp at e0 e1 e2 e3 e4 e5 e6 e7 e8 e9 e10 e11 e12 e13 e14 e15
    subst e0 e1 e2 e3 e4 e5 e6 e7 e8 e9 e10 e11 e12 e13 e14 e15
    exact ⟨ofl z0 z1 z2 z3 z4 z5 z6 z7 z8 z9 z10 z11 z12 z13 z14 z15, rfl⟩
  have k2 := h2
  have lt2 : ∀ x ∈ p2, x.block < W.heap.size := by obtain ⟨m, hm⟩ := k2; exact DataW.trod_lt m _ _ _ hm
  obtain ⟨c2_0, c2_1, c2_2, c2_3, y2_0, y2_1, y2_2, y2_3, m2, e2, _, _, g2_0, g2_1, g2_2, g2_3⟩ := open_agg4 Try.underlying25 (by kernel_rfl) cells_2 (hval 2 25 v2 rfl rfl) h2
  subst e2
  obtain ⟨a2_0, x2_0, _, _⟩ := DataW.trod_int Try.underlying3 g2_0
  simp only [List.cons.injEq, and_true] at x2_0; subst x2_0
  obtain ⟨a2_1, x2_1, _, _⟩ := DataW.trod_int Try.underlying3 g2_1
  simp only [List.cons.injEq, and_true] at x2_1; subst x2_1
  obtain ⟨a2_2, x2_2, _, _⟩ := DataW.trod_int Try.underlying3 g2_2
  simp only [List.cons.injEq, and_true] at x2_2; subst x2_2
  obtain ⟨a2_3, x2_3, _, _⟩ := DataW.trod_int Try.underlying3 g2_3
  simp only [List.cons.injEq, and_true] at x2_3; subst x2_3
  clear hA0 hval0
  refine (transposes_walk a0 a1 a2_0 a2_1 a2_2 a2_3 W).mono fun e W' ⟨he, bel⟩ => ?_
  subst he
  exact ⟨_, rfl, _, _, _, [], _, [], hW', trodAll_mk1 (shut_bool Try.underlying4 _), (trodAll_cons_mk (Below.trod laidOut (by kernel_rfl) (of_decide_eq_true (by kernel_rfl)) k0 bel lt0) (trodAll_cons_mk (Below.trod laidOut (by kernel_rfl) (of_decide_eq_true (by kernel_rfl)) k1 bel lt1) (trodAll_cons_mk (Below.trod laidOut (by kernel_rfl) (of_decide_eq_true (by kernel_rfl)) k2 bel lt2) trodAll_mk0))), rfl, bel.frame _, fun h => by cases h⟩

theorem over : Rows.matrixTransposesRow.holds Try.pinned (OpenSpec.ofChange Rows.matrixTransposesSpec) :=
  OpenClaim.holds_of_wide 7 Try.f7 rfl rfl rfl rfl rfl rfl rfl ⟨rfl, rfl, rfl, rfl, rfl⟩ rfl rfl rfl rfl rfl (by kernel_rfl) Try.func7 (by kernel_rfl)
    (of_decide_eq_true (by kernel_rfl)) (by unfold Func.isWrapper; first | (rw [if_pos (by decide +kernel)]; kernel_rfl) | (rw [if_neg (by decide +kernel)]; exact ⟨rfl, rfl⟩))
    (fun os started H enc _ => lifted os started H enc)

theorem proved : Rows.MatrixTransposesSaid :=
  over
end Go.Proofs.Ytlchecnencbamaa.matrixTransposes
