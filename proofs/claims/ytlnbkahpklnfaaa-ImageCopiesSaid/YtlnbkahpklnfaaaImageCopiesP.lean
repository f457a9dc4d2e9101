/- The law frustum/frustumlaw10.ImageCopies returns true for every input and leaves each argument as it was. No condition. -/
import Derived.Test.YtlnbkahpklnfaaaRows
import Derived.Test.YtlnbkahpklnfaaaI24
import Derived.WalkKit
import Derived.ProofKit
import Derived.OpenShut
import Derived.Carry
import Derived.SizedLaws
import Derived.JoinedCond
import Derived.Lib.SmallJoins
namespace Go.Proofs.Ytlnbkahpklnfaaa.imageCopies
open Go.ChangeShapes Go.WideShapes Go.ChangeAt Go.RowKit Go.Joins
open Go.ChangeMaps (open_string shut_string)
set_option linter.unusedVariables false

theorem own : ownKnob Try.prog.godebug = none := by kernel_rfl
theorem laidOut : laidOutB Try.prog = true := by kernel_rfl
theorem cells_0 : Try.prog.cellsOf 25 = 4 := by kernel_rfl
theorem cells_1 : Try.prog.cellsOf 25 = 4 := by kernel_rfl

set_option maxRecDepth 100000 in
theorem contract (H : Type) (enc : TypeId × Value → H) (W : World) (base : Nat) (args : Array Value) (ds gs : List (DataW H)) (before : List MemPlace)
    (hval0 : ∀ (j : Nat) t v, Try.f4.params[j]? = some t → args[j]? = some v → Value.okWide Try.prog W .any base t v)
    (hW : DataW.Whole enc Try.prog Try.f4.params.toList Rows.imageCopiesSpec.vars false W args.toList ds gs before) (hsz0 : (DataW.weightsEach Try.prog (Try.f4.params.toList ++ Rows.imageCopiesSpec.plain.varTypes Try.prog) (ds ++ gs)).all (· ≤ reachBytes) = true) :
    Calls Try.prog 4 args W fun e W' => ∃ v, e = .returned v ∧ Rows.imageCopiesSpec.post enc Try.prog Try.f4 false true false false W args v W' := by
  have hval : ∀ (j : Nat) t v, Try.f4.params[j]? = some t → args[j]? = some v → Value.okWide Try.prog W .any base t v := hval0
  have hW' := hW
  obtain ⟨p, q, hA0, hV, rfl, hfz, hnd⟩ := hW
  have hA : DataW.TrodAll enc Try.prog W 0 (fun _ => true) true Try.f4.params.toList args.toList ds p := hA0
  rw [Try.params4] at hA hval
  obtain ⟨v0, vs0, d0, ds0, p0, q0, hargs, rfl, rfl, h0, r0⟩ := trodAll_cons hA
  obtain ⟨v1, vs1, d1, ds1, p1, q1, rfl, rfl, rfl, h1, r1⟩ := trodAll_cons r0
  obtain ⟨v2, vs2, d2, ds2, p2, q2, rfl, rfl, rfl, h2, r2⟩ := trodAll_cons r1
  obtain ⟨rfl, rfl, rfl⟩ := trodAll_nil r2
  obtain rfl : args = #[v0, v1, v2] := by cases args; simp_all
  obtain ⟨rfl, rfl⟩ := trodVars_none hV
  have hsz : (DataW.weightsEach Try.prog [25, 25, 38] [d0, d1, d2]).all (· ≤ reachBytes) = true := by
    rw [Try.params4] at hsz0
    exact hsz0
  have k0 := h0
  have lt0 : ∀ x ∈ p0, x.block < W.heap.size := by obtain ⟨m, hm⟩ := k0; exact DataW.trod_lt m _ _ _ hm
  obtain ⟨c0_0, c0_1, c0_2, c0_3, y0_0, y0_1, y0_2, y0_3, m0, e0, dd0, _, g0_0, g0_1, g0_2, g0_3⟩ := open_agg4 Try.underlying25 (by kernel_rfl) cells_0 (hval 0 25 v0 rfl rfl) h0
  subst e0
  obtain ⟨a0_0, rfl, _⟩ := trod_i64 Try.underlying22 g0_0
  obtain ⟨a0_1, rfl, _⟩ := trod_i64 Try.underlying3 g0_1
  obtain ⟨a0_2, rfl, _⟩ := trod_i64 Try.underlying3 g0_2
  obtain ⟨A0, n0, c0, l0, rfl, R0, nc0, _, sl0⟩ := rd_open Try.underlying23 Try.underlying5 (by kernel_rfl) g0_3
  have z0 : n0 ≤ 140737488351232 := by
    rcases sl0 with ⟨_, rfl⟩ | ⟨el, sp, hd, rfl⟩
    · omega
    · have hq := sized_agg hsz (j := 0) (t := 25) (parts := [y0_0.1, y0_1.1, y0_2.1, y0_3.1]) rfl (congrArg some dd0) Try.underlying25
      have hh := sized_slice hq (j := 3) (t := 23) (e := 5) (elems := el) (spare := sp) rfl (congrArg some hd) Try.underlying23
      rw [show Try.prog.bytesOf 5 = 1 from by kernel_rfl] at hh
      simp only [reachBytes] at hh
      omega
  have k1 := h1
  have lt1 : ∀ x ∈ p1, x.block < W.heap.size := by obtain ⟨m, hm⟩ := k1; exact DataW.trod_lt m _ _ _ hm
  obtain ⟨c1_0, c1_1, c1_2, c1_3, y1_0, y1_1, y1_2, y1_3, m1, e1, dd1, _, g1_0, g1_1, g1_2, g1_3⟩ := open_agg4 Try.underlying25 (by kernel_rfl) cells_1 (hval 1 25 v1 rfl rfl) h1
  subst e1
  obtain ⟨a1_0, rfl, _⟩ := trod_i64 Try.underlying22 g1_0
  obtain ⟨a1_1, rfl, _⟩ := trod_i64 Try.underlying3 g1_1
  obtain ⟨a1_2, rfl, _⟩ := trod_i64 Try.underlying3 g1_2
  obtain ⟨A1, n1, c1, l1, rfl, R1, nc1, _, sl1⟩ := rd_open Try.underlying23 Try.underlying5 (by kernel_rfl) g1_3
  have z1 : n1 ≤ 140737488351232 := by
    rcases sl1 with ⟨_, rfl⟩ | ⟨el, sp, hd, rfl⟩
    · omega
    · have hq := sized_agg hsz (j := 1) (t := 25) (parts := [y1_0.1, y1_1.1, y1_2.1, y1_3.1]) rfl (congrArg some dd1) Try.underlying25
      have hh := sized_slice hq (j := 3) (t := 23) (e := 5) (elems := el) (spare := sp) rfl (congrArg some hd) Try.underlying23
      rw [show Try.prog.bytesOf 5 = 1 from by kernel_rfl] at hh
      simp only [reachBytes] at hh
      omega
  have k2 := h2
  have lt2 : ∀ x ∈ p2, x.block < W.heap.size := by obtain ⟨m, hm⟩ := k2; exact DataW.trod_lt m _ _ _ hm
  obtain ⟨a2_0, a2_1, a2_2, a2_3, a2_4, a2_5, rfl, w2⟩ := open_agg6 Try.underlying38 (by kernel_rfl) (by kernel_rfl) ⟨Try.underlying3, Try.underlying3, Try.underlying3, Try.underlying3, Try.underlying3, Try.underlying3⟩ (hval 2 38 v2 rfl rfl) h2
  clear hA0 hval0
  refine (copies_walk a0_0 a0_1 a0_2 a1_0 a1_1 a1_2 A0 A1 n0 c0 n1 c1 l0 l1 a2_0 a2_1 a2_2 a2_3 a2_4 a2_5 W R0 R1 nc0 nc1 (by omega) (by omega) w2).mono fun e W' ⟨he, bel⟩ => ?_
  subst he
  exact ⟨_, rfl, _, _, _, [], _, [], hW', trodAll_mk1 (shut_bool Try.underlying4 _), (trodAll_cons_mk (Below.trod laidOut (by kernel_rfl) (of_decide_eq_true (by kernel_rfl)) k0 bel lt0) (trodAll_cons_mk (Below.trod laidOut (by kernel_rfl) (of_decide_eq_true (by kernel_rfl)) k1 bel lt1) (trodAll_cons_mk (Below.trod laidOut (by kernel_rfl) (of_decide_eq_true (by kernel_rfl)) k2 bel lt2) trodAll_mk0))), rfl, bel.frame _, fun h => by cases h⟩

set_option maxRecDepth 100000 in
theorem lifted (os : Os) (started : os.Started) (H : Type) (enc : TypeId × Value → H) :
    ReturnsInHanded {} Try.checked os 4 .any (Rows.imageCopiesSpec.pre6 enc Try.prog Try.f4 Rows.imageCopiesRow.domain false) (Rows.imageCopiesSpec.post enc Try.prog Try.f4 false true false false) := by
  refine returnsInHanded_of_change_sized (C := Try.checked) own started (by kernel_rfl) Try.func4
    (ChangeSpec.witness6 (enc := enc) (C := Try.checked) false ⟨#[], #[.agg #[.int .i64 0, .int .i64 0, .int .i64 0, .slice none 0 0], .agg #[.int .i64 0, .int .i64 0, .int .i64 0, .slice none 0 0], .agg #[.int .i64 0, .int .i64 0, .int .i64 0, .int .i64 0, .int .i64 0, .int .i64 0]], []⟩ 8 (by kernel_rfl) (by kernel_rfl) (by kernel_rfl) (by kernel_rfl)) ?_
  intro W base args ds gs before hval hW _ hsz0 _
  exact contract H enc W base args ds gs before hval hW hsz0

theorem proved : Rows.ImageCopiesSaid :=
  OpenClaim.holds_of_wide 4 Try.f4 rfl rfl rfl rfl rfl rfl rfl ⟨rfl, rfl, rfl, rfl, rfl⟩ rfl rfl rfl rfl rfl (by kernel_rfl) Try.func4 (by kernel_rfl)
    (of_decide_eq_true (by kernel_rfl)) (by unfold Func.isWrapper; first | (rw [if_pos (by decide +kernel)]; kernel_rfl) | (rw [if_neg (by decide +kernel)]; exact ⟨rfl, rfl⟩))
    (fun os started H enc _ => lifted os started H enc)
end Go.Proofs.Ytlnbkahpklnfaaa.imageCopies
