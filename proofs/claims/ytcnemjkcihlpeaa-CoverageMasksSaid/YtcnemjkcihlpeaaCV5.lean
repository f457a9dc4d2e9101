/- What SamplePoint of the reference returns. -/
import Derived.Test.YtcnemjkcihlpeaaCV3
namespace Go.Proofs.Ytcnemjkcihlpeaa
set_option linter.unusedSimpArgs false
open Go.RowKit Go.Sort Go.ChangeShapes Go.WideShapes
set_option linter.unusedVariables false

set_option maxHeartbeats 1000000 in
theorem rsp_no (x y n i : Int) (h : pixel x y = false) (w : World) : Calls Try.prog 12 #[.int .i64 x, .int .i64 y, .int .i64 n, .int .i64 i] w fun e w' => e = .returned (.tuple #[.int .i64 (-1), .int .i64 (-1)]) ∧ Below w.heap.size w w' := by
  have BB := Below.refl w.heap.size w
  have CQ := Lib.hid (fun W => rpos_b n W)
  obtain ⟨N, hN⟩ : ∃ N, (posl n).length = N := ⟨_, rfl⟩
  have HN := Lib.hid hN
  clear hN
  have hh : x < 0 ∨ (¬ x < 0 ∧ 63 < x) ∨ (¬ x < 0 ∧ ¬ 63 < x ∧ y < 0) ∨ (¬ x < 0 ∧ ¬ 63 < x ∧ ¬ y < 0 ∧ 63 < y) := by
    unfold pixel at h
    simp at h
    omega
  clear h
  rcases hh with h1 | ⟨h1, h2⟩ | ⟨h1, h2, h3⟩ | ⟨h1, h2, h3, h4⟩
  all_goals
    go_enter Try.func12, Try.ntmps12
    go_wp2_with (go_at_call 10; (with_reducible refine (CQ.out _).mono ?_); rintro _ W2 ⟨A, q, rfl, R, B⟩; replace BB := bon BB B; rw [HN.out] at R ⊢; have HR := Lib.hid R; clear B R)
    exact bodyPost_ret (by simp [results, Try.results12, go_sem]) rfl ⟨rfl, BB⟩

set_option maxRecDepth 100000 in
set_option maxHeartbeats 2000000 in
theorem rsp_yes (x y n : Int) (k : Nat) (p : Int × Int) (h : pixel x y = true) (hk : (posl n)[k]? = some p) (w : World) : Calls Try.prog 12 #[.int .i64 x, .int .i64 y, .int .i64 n, .int .i64 (k : Int)] w fun e w' => e = .returned (.tuple #[.int .i64 (x * 256 + p.1), .int .i64 (y * 256 + p.2)]) ∧ Below w.heap.size w w' := by
  have BB := Below.refl w.heap.size w
  have CQ := Lib.hid (fun W => rpos_b n W)
  have hl8 := posl_len n
  obtain ⟨⟨q0, q1⟩, q2, q3⟩ := posl_bd n _ (List.mem_of_getElem? hk)
  have hlt := (List.getElem?_eq_some_iff.1 hk).1
  obtain ⟨hx0, hx1, hy0, hy1⟩ : 0 ≤ x ∧ x < 64 ∧ 0 ≤ y ∧ y < 64 := by simpa [pixel] using h
  generalize posl n = l at *
  obtain ⟨N, hN⟩ : ∃ N, l.length = N := ⟨_, rfl⟩
  rw [hN] at hl8 hlt
  have HN := Lib.hid hN
  have HK := Lib.hid hk
  clear h hN hk
  obtain ⟨p0, p1⟩ := p
  simp only at q0 q1 q2 q3 ⊢
  go_enter Try.func12, Try.ntmps12
  go_wp2_with (go_at_call 10; (with_reducible refine (CQ.out _).mono ?_); rintro _ W2 ⟨A, q, rfl, R, B⟩; replace BB := bon BB B; rw [HN.out] at R ⊢; have HR := Lib.hid R; clear B R)
  all_goals try (exfalso; omega)
  obtain ⟨bb, off, ⟨p0', p1'⟩, rfl, lb, ha, hx⟩ := HR.out.at_ hlt
  have e := hx.out.symm.trans HK.out
  obtain ⟨rfl, rfl⟩ : p0' = p0 ∧ p1' = p1 := by simpa using e
  clear e hx
  simp only [pt2] at ha
  have c0 := ha 0 _ rfl
  have c1 := ha 1 _ rfl
  simp only [Nat.add_zero] at c0
  have k_c0 := cell_regrown c0
  have k_c1 := cell_regrown c1
  refine wp_region_quiet_below (by kernel_rfl) (by kernel_rfl) ?_
  repeat (first | ((try simp only [List.getElem_toArray, List.getElem_cons_succ, List.getElem_cons_zero]); go_big_quiet_step (fail)) | ((try simp only [List.getElem_toArray, List.getElem_cons_succ, List.getElem_cons_zero]); quiet_step (fail)))
  refine wpQuiet_nil ?_
  intro W9 hw'
  have B9 := below_regrown' hw'
  clear hw' k_c0 k_c1
  replace c0 := cell_below (B9) c0
  replace c1 := cell_below (B9) c1
  replace BB := bon BB B9
  clear B9
  first
    | (go_wp2; exact bodyPost_ret (by simp [results, Try.results12, go_sem]) rfl ⟨rfl, BB⟩)
    | (go_simp; exact bodyPost_ret (by simp [results, Try.results12, go_sem]) rfl ⟨rfl, BB⟩)

end Go.Proofs.Ytcnemjkcihlpeaa
