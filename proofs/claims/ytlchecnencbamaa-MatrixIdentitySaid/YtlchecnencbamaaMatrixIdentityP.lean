/- The law frustum/frustumlaw04.MatrixIdentity returns true for every input and leaves each argument as it was. No condition. -/
import Derived.Test.YtlchecnencbamaaRows
import Derived.Test.YtlchecnencbamaaM7
import Derived.WalkKit
import Derived.ProofKit
import Derived.OpenShut
import Derived.Carry
import Derived.Lib.SmallJoins
namespace Go.Proofs.Ytlchecnencbamaa.matrixIdentity
open Go.ChangeShapes Go.WideShapes Go.ChangeAt Go.RowKit Go.Joins
open Go.ChangeMaps (open_string shut_string)
set_option linter.unusedVariables false

theorem own : ownKnob Try.prog.godebug = none := by kernel_rfl
theorem laidOut : laidOutB Try.prog = true := by kernel_rfl
theorem cells_1 : Try.prog.cellsOf 25 = 4 := by kernel_rfl
theorem cellsI : Try.prog.cellsOf 3 = 1 := by kernel_rfl
theorem cells_0 : Try.prog.cellsOf 23 = 16 := by kernel_rfl
theorem list16 {α : Type} (l : List α) (h : (⟨l⟩ : Array α).size = 16) : ∃ c0 c1 c2 c3 c4 c5 c6 c7 c8 c9 c10 c11 c12 c13 c14 c15, l = [c0, c1, c2, c3, c4, c5, c6, c7, c8, c9, c10, c11, c12, c13, c14, c15] := by
  match l, h with
  | [c0, c1, c2, c3, c4, c5, c6, c7, c8, c9, c10, c11, c12, c13, c14, c15], _ => exact ⟨c0, c1, c2, c3, c4, c5, c6, c7, c8, c9, c10, c11, c12, c13, c14, c15, rfl⟩

set_option maxRecDepth 100000 in
theorem lifted (os : Os) (started : os.Started) (H : Type) (enc : TypeId × Value → H) :
    ReturnsInHanded {} Try.checked os 6 .any (Rows.matrixIdentitySpec.pre6 enc Try.prog Try.f6 Rows.matrixIdentityRow.domain false) (Rows.matrixIdentitySpec.post enc Try.prog Try.f6 false true false false) := by
  refine returnsInHanded_of_change (C := Try.checked) own started (by kernel_rfl) Try.func6
    (ChangeSpec.witness6 (enc := enc) (C := Try.checked) false ⟨#[], #[.agg #[.int .i64 0, .int .i64 0, .int .i64 0, .int .i64 0, .int .i64 0, .int .i64 0, .int .i64 0, .int .i64 0, .int .i64 0, .int .i64 0, .int .i64 0, .int .i64 0, .int .i64 0, .int .i64 0, .int .i64 0, .int .i64 0], .agg #[.int .i64 0, .int .i64 0, .int .i64 0, .int .i64 0]], []⟩ 8 (by kernel_rfl) (by kernel_rfl) (by kernel_rfl) (by kernel_rfl)) ?_
  intro W base args ds gs before hval0 hW hcnd _
  have hval : ∀ (j : Nat) t v, Try.f6.params[j]? = some t → args[j]? = some v → Value.okWide Try.prog W .any base t v := hval0
  have hW' := hW
  obtain ⟨p, q, hA0, hV, rfl, hfz, hnd⟩ := hW
  have hA : DataW.TrodAll enc Try.prog W 0 (fun _ => true) true Try.f6.params.toList args.toList ds p := hA0
  rw [Try.params6] at hA hval
  obtain ⟨v0, vs0, d0, ds0, p0, q0, hargs, rfl, rfl, h0, r0⟩ := trodAll_cons hA
  obtain ⟨v1, vs1, d1, ds1, p1, q1, rfl, rfl, rfl, h1, r1⟩ := trodAll_cons r0
  obtain ⟨rfl, rfl, rfl⟩ := trodAll_nil r1
  obtain rfl : args = #[v0, v1] := by cases args; simp_all
  obtain ⟨rfl, rfl⟩ := trodVars_none hV
  have k0 := h0
  have lt0 : ∀ x ∈ p0, x.block < W.heap.size := by obtain ⟨m, hm⟩ := k0; exact DataW.trod_lt m _ _ _ hm
  obtain ⟨a0, rfl⟩ : ∃ m : Nat → Int, v0 = .agg (mats m) := by
    obtain ⟨cs, rfl, hsz, _⟩ : ∃ cs, v0 = .agg cs ∧ cs.size = Try.prog.cellsOf 23 ∧ Row.okWide Try.prog W .any base 23 cs := by
      have := hval 0 23 v0 rfl rfl
      simpa [Value.okWide, Try.underlying23] using this
    rw [cells_0] at hsz
    obtain ⟨l⟩ := cs
    obtain ⟨c0, c1, c2, c3, c4, c5, c6, c7, c8, c9, c10, c11, c12, c13, c14, c15, rfl⟩ := list16 l hsz
    obtain ⟨fuel, hf⟩ := h0
    obtain ⟨ys, m, _, _, _, hl, hy⟩ := Go.DataW.trod_array Try.underlying23 hf
    have hy0 := hy 0 (by omega)
    have hy1 := hy 1 (by omega)
    have hy2 := hy 2 (by omega)
    have hy3 := hy 3 (by omega)
    have hy4 := hy 4 (by omega)
    have hy5 := hy 5 (by omega)
    have hy6 := hy 6 (by omega)
    have hy7 := hy 7 (by omega)
    have hy8 := hy 8 (by omega)
    have hy9 := hy 9 (by omega)
    have hy10 := hy 10 (by omega)
    have hy11 := hy 11 (by omega)
    have hy12 := hy 12 (by omega)
    have hy13 := hy 13 (by omega)
    have hy14 := hy 14 (by omega)
    have hy15 := hy 15 (by omega)
    rw [List.getElem?_eq_getElem (by omega)] at hy0 hy1 hy2 hy3 hy4 hy5 hy6 hy7 hy8 hy9 hy10 hy11 hy12 hy13 hy14 hy15
    simp [cellsI, Value.cells] at hy0 hy1 hy2 hy3 hy4 hy5 hy6 hy7 hy8 hy9 hy10 hy11 hy12 hy13 hy14 hy15
    obtain ⟨z0, e0, _, _⟩ := DataW.trod_int Try.underlying3 hy0
    obtain ⟨z1, e1, _, _⟩ := DataW.trod_int Try.underlying3 hy1
    obtain ⟨z2, e2, _, _⟩ := DataW.trod_int Try.underlying3 hy2
    obtain ⟨z3, e3, _, _⟩ := DataW.trod_int Try.underlying3 hy3
    obtain ⟨z4, e4, _, _⟩ := DataW.trod_int Try.underlying3 hy4
    obtain ⟨z5, e5, _, _⟩ := DataW.trod_int Try.underlying3 hy5
    obtain ⟨z6, e6, _, _⟩ := DataW.trod_int Try.underlying3 hy6
    obtain ⟨z7, e7, _, _⟩ := DataW.trod_int Try.underlying3 hy7
    obtain ⟨z8, e8, _, _⟩ := DataW.trod_int Try.underlying3 hy8
    obtain ⟨z9, e9, _, _⟩ := DataW.trod_int Try.underlying3 hy9
    obtain ⟨z10, e10, _, _⟩ := DataW.trod_int Try.underlying3 hy10
    obtain ⟨z11, e11, _, _⟩ := DataW.trod_int Try.underlying3 hy11
    obtain ⟨z12, e12, _, _⟩ := DataW.trod_int Try.underlying3 hy12
    obtain ⟨z13, e13, _, _⟩ := DataW.trod_int Try.underlying3 hy13
    obtain ⟨z14, e14, _, _⟩ := DataW.trod_int Try.underlying3 hy14
    obtain ⟨z15, e15, _, _⟩ := DataW.trod_int Try.underlying3 hy15
    simp at e0 e1 e2 e3 e4 e5 e6 e7 e8 e9 e10 e11 e12 e13 e14 e15
    subst e0 e1 e2 e3 e4 e5 e6 e7 e8 e9 e10 e11 e12 e13 e14 e15
    exact ⟨ofl z0 z1 z2 z3 z4 z5 z6 z7 z8 z9 z10 z11 z12 z13 z14 z15, rfl⟩
  have k1 := h1
  have lt1 : ∀ x ∈ p1, x.block < W.heap.size := by obtain ⟨m, hm⟩ := k1; exact DataW.trod_lt m _ _ _ hm
  obtain ⟨c1_0, c1_1, c1_2, c1_3, y1_0, y1_1, y1_2, y1_3, m1, e1, _, _, g1_0, g1_1, g1_2, g1_3⟩ := open_agg4 Try.underlying25 (by kernel_rfl) cells_1 (hval 1 25 v1 rfl rfl) h1
  subst e1
  obtain ⟨a1_0, x1_0, _, _⟩ := DataW.trod_int Try.underlying3 g1_0
  simp only [List.cons.injEq, and_true] at x1_0; subst x1_0
  obtain ⟨a1_1, x1_1, _, _⟩ := DataW.trod_int Try.underlying3 g1_1
  simp only [List.cons.injEq, and_true] at x1_1; subst x1_1
  obtain ⟨a1_2, x1_2, _, _⟩ := DataW.trod_int Try.underlying3 g1_2
  simp only [List.cons.injEq, and_true] at x1_2; subst x1_2
  obtain ⟨a1_3, x1_3, _, _⟩ := DataW.trod_int Try.underlying3 g1_3
  simp only [List.cons.injEq, and_true] at x1_3; subst x1_3
  clear hA0 hval0
  refine (identity_walk a0 a1_0 a1_1 a1_2 a1_3 W).mono fun e W' ⟨he, bel⟩ => ?_
  subst he
  exact ⟨_, rfl, _, _, _, [], _, [], hW', trodAll_mk1 (shut_bool Try.underlying4 _), (trodAll_cons_mk (Below.trod laidOut (by kernel_rfl) (of_decide_eq_true (by kernel_rfl)) k0 bel lt0) (trodAll_cons_mk (Below.trod laidOut (by kernel_rfl) (of_decide_eq_true (by kernel_rfl)) k1 bel lt1) trodAll_mk0)), rfl, bel.frame _, fun h => by cases h⟩

theorem over : Rows.matrixIdentityRow.holds Try.pinned (OpenSpec.ofChange Rows.matrixIdentitySpec) :=
  OpenClaim.holds_of_wide 6 Try.f6 rfl rfl rfl rfl rfl rfl rfl ⟨rfl, rfl, rfl, rfl, rfl⟩ rfl rfl rfl rfl rfl (by kernel_rfl) Try.func6 (by kernel_rfl)
    (of_decide_eq_true (by kernel_rfl)) (by unfold Func.isWrapper; first | (rw [if_pos (by decide +kernel)]; kernel_rfl) | (rw [if_neg (by decide +kernel)]; exact ⟨rfl, rfl⟩))
    (fun os started H enc _ => lifted os started H enc)

theorem proved : Rows.MatrixIdentitySaid :=
  over
end Go.Proofs.Ytlchecnencbamaa.matrixIdentity
