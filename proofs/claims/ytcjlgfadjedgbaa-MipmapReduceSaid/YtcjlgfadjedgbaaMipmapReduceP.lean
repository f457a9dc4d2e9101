/- The law frustum/frustumlaw12.MipmapReduce returns true for every input and leaves each argument as it was. No condition. -/
import Derived.Test.YtcjlgfadjedgbaaRows
import Derived.Test.YtcjlgfadjedgbaaL15
import Derived.WalkKit
import Derived.ProofKit
import Derived.OpenShut
import Derived.Carry
import Derived.SizedLaws
import Derived.JoinedCond
import Derived.Lib.SmallJoins
namespace Go.Proofs.Ytcjlgfadjedgbaa.mipmapReduce
open Go.ChangeShapes Go.WideShapes Go.ChangeAt Go.RowKit Go.Joins
open Go.ChangeMaps (open_string shut_string)
set_option linter.unusedVariables false

theorem own : ownKnob Try.prog.godebug = none := by kernel_rfl
theorem laidOut : laidOutB Try.prog = true := by kernel_rfl
theorem cells_0 : Try.prog.cellsOf 25 = 4 := by kernel_rfl

set_option maxRecDepth 100000 in
theorem contract (H : Type) (enc : TypeId × Value → H) (W : World) (base : Nat) (args : Array Value) (ds gs : List (DataW H)) (before : List MemPlace)
    (hval0 : ∀ (j : Nat) t v, Try.f5.params[j]? = some t → args[j]? = some v → Value.okWide Try.prog W .any base t v)
    (hW : DataW.Whole enc Try.prog Try.f5.params.toList Rows.mipmapReduceSpec.vars false W args.toList ds gs before) (hsz0 : (DataW.weightsEach Try.prog (Try.f5.params.toList ++ Rows.mipmapReduceSpec.plain.varTypes Try.prog) (ds ++ gs)).all (· ≤ reachBytes) = true) :
    Calls Try.prog 5 args W fun e W' => ∃ v, e = .returned v ∧ Rows.mipmapReduceSpec.post enc Try.prog Try.f5 false true false false W args v W' := by
  have hval : ∀ (j : Nat) t v, Try.f5.params[j]? = some t → args[j]? = some v → Value.okWide Try.prog W .any base t v := hval0
  have hW' := hW
  obtain ⟨p, q, hA0, hV, rfl, hfz, hnd⟩ := hW
  have hA : DataW.TrodAll enc Try.prog W 0 (fun _ => true) true Try.f5.params.toList args.toList ds p := hA0
  rw [Try.params5] at hA hval
  obtain ⟨v0, vs0, d0, ds0, p0, q0, hargs, rfl, rfl, h0, r0⟩ := trodAll_cons hA
  obtain ⟨rfl, rfl, rfl⟩ := trodAll_nil r0
  obtain rfl : args = #[v0] := by cases args; simp_all
  obtain ⟨rfl, rfl⟩ := trodVars_none hV
  have hsz : (DataW.weightsEach Try.prog [25] [d0]).all (· ≤ reachBytes) = true := by
    rw [Try.params5] at hsz0
    exact hsz0
  have k0 := h0
  have lt0 : ∀ x ∈ p0, x.block < W.heap.size := by obtain ⟨m, hm⟩ := k0; exact DataW.trod_lt m _ _ _ hm
  obtain ⟨c0_0, c0_1, c0_2, c0_3, y0_0, y0_1, y0_2, y0_3, m0, e0, dd0, _, g0_0, g0_1, g0_2, g0_3⟩ := open_agg4 Try.underlying25 (by kernel_rfl) cells_0 (hval 0 25 v0 rfl rfl) h0
  subst e0
  obtain ⟨a0_0, rfl, _⟩ := trod_i64 Try.underlying22 g0_0
  obtain ⟨a0_1, rfl, _⟩ := trod_i64 Try.underlying3 g0_1
  obtain ⟨a0_2, rfl, _⟩ := trod_i64 Try.underlying3 g0_2
  obtain ⟨A0, n0, c0, l0, rfl, R0, nc0, _, sl0⟩ := rd_open Try.underlying23 Try.underlying5 (by kernel_rfl) g0_3
  have z0 : n0 ≤ 140737488351232 := by
    rcases sl0 with ⟨_, rfl⟩ | ⟨el, sp, hd, rfl⟩
    · omega
    · have hq := sized_agg hsz (j := 0) (t := 25) (parts := [y0_0.1, y0_1.1, y0_2.1, y0_3.1]) rfl (congrArg some dd0) Try.underlying25
      have hh := sized_slice hq (j := 3) (t := 23) (e := 5) (elems := el) (spare := sp) rfl (congrArg some hd) Try.underlying23
      rw [show Try.prog.bytesOf 5 = 1 from by kernel_rfl] at hh
      simp only [reachBytes] at hh
      omega
  clear hA0 hval0
  refine (reduce_walk a0_0 a0_1 a0_2 A0 n0 c0 l0 W R0 nc0).mono fun e W' ⟨he, bel⟩ => ?_
  subst he
  exact ⟨_, rfl, _, _, _, [], _, [], hW', trodAll_mk1 (shut_bool Try.underlying4 _), (trodAll_cons_mk (Below.trod laidOut (by kernel_rfl) (of_decide_eq_true (by kernel_rfl)) k0 bel lt0) trodAll_mk0), rfl, bel.frame _, fun h => by cases h⟩

set_option maxRecDepth 100000 in
theorem lifted (os : Os) (started : os.Started) (H : Type) (enc : TypeId × Value → H) :
    ReturnsInHanded {} Try.checked os 5 .any (Rows.mipmapReduceSpec.pre6 enc Try.prog Try.f5 Rows.mipmapReduceRow.domain false) (Rows.mipmapReduceSpec.post enc Try.prog Try.f5 false true false false) := by
  refine returnsInHanded_of_change_sized (C := Try.checked) own started (by kernel_rfl) Try.func5
    (ChangeSpec.witness6 (enc := enc) (C := Try.checked) false ⟨#[], #[.agg #[.int .i64 0, .int .i64 0, .int .i64 0, .slice none 0 0]], []⟩ 8 (by kernel_rfl) (by kernel_rfl) (by kernel_rfl) (by kernel_rfl)) ?_
  intro W base args ds gs before hval hW _ hsz0 _
  exact contract H enc W base args ds gs before hval hW hsz0

theorem proved : Rows.MipmapReduceSaid :=
  OpenClaim.holds_of_wide 5 Try.f5 rfl rfl rfl rfl rfl rfl rfl ⟨rfl, rfl, rfl, rfl, rfl⟩ rfl rfl rfl rfl rfl (by kernel_rfl) Try.func5 (by kernel_rfl)
    (of_decide_eq_true (by kernel_rfl)) (by unfold Func.isWrapper; first | (rw [if_pos (by decide +kernel)]; kernel_rfl) | (rw [if_neg (by decide +kernel)]; exact ⟨rfl, rfl⟩))
    (fun os started H enc _ => lifted os started H enc)
end Go.Proofs.Ytcjlgfadjedgbaa.mipmapReduce
