/- The law frustum/frustumlaw04.MatrixProjections returns true for every input and leaves each argument as it was. No condition. -/
import Derived.Test.YtlchecnencbamaaRows
import Derived.Test.YtlchecnencbamaaM8
import Derived.WalkKit
import Derived.ProofKit
import Derived.OpenShut
import Derived.Carry
import Derived.Lib.SmallJoins
namespace Go.Proofs.Ytlchecnencbamaa.matrixProjections
open Go.ChangeShapes Go.WideShapes Go.ChangeAt Go.RowKit Go.Joins
open Go.ChangeMaps (open_string shut_string)
set_option linter.unusedVariables false

theorem own : ownKnob Try.prog.godebug = none := by kernel_rfl
theorem laidOut : laidOutB Try.prog = true := by kernel_rfl
theorem cellsI : Try.prog.cellsOf 3 = 1 := by kernel_rfl
theorem cells_0 : Try.prog.cellsOf 32 = 6 := by kernel_rfl
theorem list6 {α : Type} (l : List α) (h : (⟨l⟩ : Array α).size = 6) : ∃ c0 c1 c2 c3 c4 c5, l = [c0, c1, c2, c3, c4, c5] := by
  match l, h with
  | [c0, c1, c2, c3, c4, c5], _ => exact ⟨c0, c1, c2, c3, c4, c5, rfl⟩

set_option maxRecDepth 100000 in
theorem lifted (os : Os) (started : os.Started) (H : Type) (enc : TypeId × Value → H) :
    ReturnsInHanded {} Try.checked os 4 .any (Rows.matrixProjectionsSpec.pre6 enc Try.prog Try.f4 Rows.matrixProjectionsRow.domain false) (Rows.matrixProjectionsSpec.post enc Try.prog Try.f4 false true false false) := by
  refine returnsInHanded_of_change (C := Try.checked) own started (by kernel_rfl) Try.func4
    (ChangeSpec.witness6 (enc := enc) (C := Try.checked) false ⟨#[], #[.agg #[.int .i64 0, .int .i64 0, .int .i64 0, .int .i64 0, .int .i64 0, .int .i64 0]], []⟩ 8 (by kernel_rfl) (by kernel_rfl) (by kernel_rfl) (by kernel_rfl)) ?_
  intro W base args ds gs before hval0 hW hcnd _
  have hval : ∀ (j : Nat) t v, Try.f4.params[j]? = some t → args[j]? = some v → Value.okWide Try.prog W .any base t v := hval0
  have hW' := hW
  obtain ⟨p, q, hA0, hV, rfl, hfz, hnd⟩ := hW
  have hA : DataW.TrodAll enc Try.prog W 0 (fun _ => true) true Try.f4.params.toList args.toList ds p := hA0
  rw [Try.params4] at hA hval
  obtain ⟨v0, vs0, d0, ds0, p0, q0, hargs, rfl, rfl, h0, r0⟩ := trodAll_cons hA
  obtain ⟨rfl, rfl, rfl⟩ := trodAll_nil r0
  obtain rfl : args = #[v0] := by cases args; simp_all
  obtain ⟨rfl, rfl⟩ := trodVars_none hV
  have k0 := h0
  have lt0 : ∀ x ∈ p0, x.block < W.heap.size := by obtain ⟨m, hm⟩ := k0; exact DataW.trod_lt m _ _ _ hm
  obtain ⟨a0_0, a0_1, a0_2, a0_3, a0_4, a0_5, rfl⟩ : ∃ x0 x1 x2 x3 x4 x5, v0 = .agg #[.int .i64 x0, .int .i64 x1, .int .i64 x2, .int .i64 x3, .int .i64 x4, .int .i64 x5] := by
    obtain ⟨cs, rfl, hsz, _⟩ : ∃ cs, v0 = .agg cs ∧ cs.size = Try.prog.cellsOf 32 ∧ Row.okWide Try.prog W .any base 32 cs := by
      have := hval 0 32 v0 rfl rfl
      simpa [Value.okWide, Try.underlying32] using this
    rw [cells_0] at hsz
    obtain ⟨l⟩ := cs
    obtain ⟨c0, c1, c2, c3, c4, c5, rfl⟩ := list6 l hsz
    obtain ⟨fuel, hf⟩ := h0
    obtain ⟨ys, m, _, _, _, hl, hy⟩ := Go.DataW.trod_array Try.underlying32 hf
    have hy0 := hy 0 (by omega)
    have hy1 := hy 1 (by omega)
    have hy2 := hy 2 (by omega)
    have hy3 := hy 3 (by omega)
    have hy4 := hy 4 (by omega)
    have hy5 := hy 5 (by omega)
    rw [List.getElem?_eq_getElem (by omega)] at hy0 hy1 hy2 hy3 hy4 hy5
    simp [cellsI, Value.cells] at hy0 hy1 hy2 hy3 hy4 hy5
    obtain ⟨z0, e0, _, _⟩ := DataW.trod_int Try.underlying3 hy0
    obtain ⟨z1, e1, _, _⟩ := DataW.trod_int Try.underlying3 hy1
    obtain ⟨z2, e2, _, _⟩ := DataW.trod_int Try.underlying3 hy2
    obtain ⟨z3, e3, _, _⟩ := DataW.trod_int Try.underlying3 hy3
    obtain ⟨z4, e4, _, _⟩ := DataW.trod_int Try.underlying3 hy4
    obtain ⟨z5, e5, _, _⟩ := DataW.trod_int Try.underlying3 hy5
    simp at e0 e1 e2 e3 e4 e5
    subst e0 e1 e2 e3 e4 e5
    exact ⟨z0, z1, z2, z3, z4, z5, rfl⟩
  clear hA0 hval0
  refine (projections_walk a0_0 a0_1 a0_2 a0_3 a0_4 a0_5 W).mono fun e W' ⟨he, bel⟩ => ?_
  subst he
  exact ⟨_, rfl, _, _, _, [], _, [], hW', trodAll_mk1 (shut_bool Try.underlying4 _), (trodAll_cons_mk (Below.trod laidOut (by kernel_rfl) (of_decide_eq_true (by kernel_rfl)) k0 bel lt0) trodAll_mk0), rfl, bel.frame _, fun h => by cases h⟩

theorem over : Rows.matrixProjectionsRow.holds Try.pinned (OpenSpec.ofChange Rows.matrixProjectionsSpec) :=
  OpenClaim.holds_of_wide 4 Try.f4 rfl rfl rfl rfl rfl rfl rfl ⟨rfl, rfl, rfl, rfl, rfl⟩ rfl rfl rfl rfl rfl (by kernel_rfl) Try.func4 (by kernel_rfl)
    (of_decide_eq_true (by kernel_rfl)) (by unfold Func.isWrapper; first | (rw [if_pos (by decide +kernel)]; kernel_rfl) | (rw [if_neg (by decide +kernel)]; exact ⟨rfl, rfl⟩))
    (fun os started H enc _ => lifted os started H enc)

theorem proved : Rows.MatrixProjectionsSaid :=
  over
end Go.Proofs.Ytlchecnencbamaa.matrixProjections
