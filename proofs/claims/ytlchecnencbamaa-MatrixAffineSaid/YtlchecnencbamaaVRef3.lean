/- What Dot of the reference returns. -/
import Derived.Test.YtlchecnencbamaaVRef2
namespace Go.Proofs.Ytlchecnencbamaa
open Go.RowKit Go.Sort

theorem below_drew {w W : World} (h : Below w.heap.size w W) : Below w.heap.size w W.drew := ⟨h.os, h.tape, h.output, h.size, h.block⟩

/-- From here on of the world only S is known. -/
theorem letter {P : Program} {c : Code} {Q : Exit → Act → World → Prop} {a : Act} {w : World} {S : World → Prop} (h : ∀ W, S W → c.wp P Q a W) (hs : S w) : c.wp P Q a w := h w hs

set_option maxRecDepth 100000 in
theorem rdot_b (x0 x1 x2 x3 y0 y1 y2 y3 : Int) (w : World) :
    Calls Try.prog 38 #[.agg #[.int .i64 x0, .int .i64 x1, .int .i64 x2, .int .i64 x3], .agg #[.int .i64 y0, .int .i64 y1, .int .i64 y2, .int .i64 y3]] w fun e w' => e = .returned (.int .i64 (dotv x0 x1 x2 x3 y0 y1 y2 y3)) ∧ Below w.heap.size w w' := by
  obtain ⟨BB, a0, a1, a2, a3, b0, b1, b2, b3⟩ := argsff w (.int .i64 x0) (.int .i64 x1) (.int .i64 x2) (.int .i64 x3) (.int .i64 y0) (.int .i64 y1) (.int .i64 y2) (.int .i64 y3) 25
  go_enter Try.func38, Try.ntmps38
  go_wp2_with fail
  refine letter (S := fun w' => Below w.heap.size w w' ∧ w'.cell? ⟨w.heap.size, 0, none⟩ = some (.int .i64 x0) ∧ w'.cell? ⟨w.heap.size, 1, none⟩ = some (.int .i64 x1) ∧ w'.cell? ⟨w.heap.size, 2, none⟩ = some (.int .i64 x2) ∧ w'.cell? ⟨w.heap.size, 3, none⟩ = some (.int .i64 x3) ∧ w'.cell? ⟨w.heap.size + 1, 0, none⟩ = some (.int .i64 y0) ∧ w'.cell? ⟨w.heap.size + 1, 1, none⟩ = some (.int .i64 y1) ∧ w'.cell? ⟨w.heap.size + 1, 2, none⟩ = some (.int .i64 y2) ∧ w'.cell? ⟨w.heap.size + 1, 3, none⟩ = some (.int .i64 y3)) ?_ ⟨BB, a0, a1, a2, a3, b0, b1, b2, b3⟩
  clear BB a0 a1 a2 a3 b0 b1 b2 b3
  rintro W ⟨BB, a0, a1, a2, a3, b0, b1, b2, b3⟩
  have HB := Lib.hid BB
  clear BB
  go_region_held3 (fun w' => w'.cell? ⟨w.heap.size, 0, none⟩ = some (.int .i64 x0) ∧ w'.cell? ⟨w.heap.size, 1, none⟩ = some (.int .i64 x1) ∧ w'.cell? ⟨w.heap.size, 2, none⟩ = some (.int .i64 x2) ∧ w'.cell? ⟨w.heap.size, 3, none⟩ = some (.int .i64 x3) ∧ w'.cell? ⟨w.heap.size + 1, 0, none⟩ = some (.int .i64 y0) ∧ w'.cell? ⟨w.heap.size + 1, 1, none⟩ = some (.int .i64 y1) ∧ w'.cell? ⟨w.heap.size + 1, 2, none⟩ = some (.int .i64 y2) ∧ w'.cell? ⟨w.heap.size + 1, 3, none⟩ = some (.int .i64 y3))
    ((first
      | go_keep
      | (go_split_ands; refine ⟨?_, ?_, ?_, ?_, ?_, ?_, ?_, ?_⟩ <;> (refine cell_below C ?_; with_reducible assumption))
      | (go_split_ands; refine ⟨?_, ?_, ?_, ?_, ?_, ?_, ?_, ?_⟩ <;> (refine cell_below B ?_; with_reducible assumption))))
    ((first
      | (go_at_call 55; have B1 := B; clear B; refine (rlist_b _ _ _ _ _).mono ?_; rintro _ _ ⟨mb, rfl, m0, m1, m2, m3, C⟩)
      | (go_at_call 55; refine (rlist_b _ _ _ _ _).mono ?_; rintro _ _ ⟨lb, rfl, l0, l1, l2, l3, B⟩)))
  clear a0 a1 a2 a3 b0 b1 b2 b3
  replace l0 := cell_below C l0
  replace l1 := cell_below C l1
  replace l2 := cell_below C l2
  replace l3 := cell_below C l3
  have BB := bon (bon (below_drew HB.out) B1) C
  clear HB B1
  have q0 := sat_prod x0 y0
  have q1 := sat_prod x1 y1
  have q2 := sat_prod x2 y2
  have q3 := sat_prod x3 y3
  have n0 : IntKind.i64.wrap (sat x0 * sat y0) = sat x0 * sat y0 := IntWalk.i64_in _ (by omega)
  have n1 : IntKind.i64.wrap (sat x1 * sat y1) = sat x1 * sat y1 := IntWalk.i64_in _ (by omega)
  have n2 : IntKind.i64.wrap (sat x2 * sat y2) = sat x2 * sat y2 := IntWalk.i64_in _ (by omega)
  have n3 : IntKind.i64.wrap (sat x3 * sat y3) = sat x3 * sat y3 := IntWalk.i64_in _ (by omega)
  have u2 : IntKind.i64.wrap (sat x0 * sat y0 + sat x1 * sat y1) = sat x0 * sat y0 + sat x1 * sat y1 := IntWalk.i64_in _ (by omega)
  have u3 : IntKind.i64.wrap (sat x0 * sat y0 + sat x1 * sat y1 + sat x2 * sat y2) = sat x0 * sat y0 + sat x1 * sat y1 + sat x2 * sat y2 := IntWalk.i64_in _ (by omega)
  have u4 : IntKind.i64.wrap (sat x0 * sat y0 + sat x1 * sat y1 + sat x2 * sat y2 + sat x3 * sat y3) = sat x0 * sat y0 + sat x1 * sat y1 + sat x2 * sat y2 + sat x3 * sat y3 := IntWalk.i64_in _ (by omega)
  clear q0 q1 q2 q3
  go_wp2_with fail
  go_loopw [7, 8] (fun s i wr => ((s = .int .i64 (0) ∧ i = .int .i64 0) ∨ (s = .int .i64 (sat x0 * sat y0) ∧ i = .int .i64 1) ∨ (s = .int .i64 (sat x0 * sat y0 + sat x1 * sat y1) ∧ i = .int .i64 2) ∨ (s = .int .i64 (sat x0 * sat y0 + sat x1 * sat y1 + sat x2 * sat y2) ∧ i = .int .i64 3) ∨ (s = .int .i64 (sat x0 * sat y0 + sat x1 * sat y1 + sat x2 * sat y2 + sat x3 * sat y3) ∧ i = .int .i64 4)) ∧ Below w.heap.size w wr ∧ wr.cell? ⟨lb, 0, none⟩ = some (.int .i64 x0) ∧ wr.cell? ⟨lb, 1, none⟩ = some (.int .i64 x1) ∧ wr.cell? ⟨lb, 2, none⟩ = some (.int .i64 x2) ∧ wr.cell? ⟨lb, 3, none⟩ = some (.int .i64 x3) ∧ wr.cell? ⟨mb, 0, none⟩ = some (.int .i64 y0) ∧ wr.cell? ⟨mb, 1, none⟩ = some (.int .i64 y1) ∧ wr.cell? ⟨mb, 2, none⟩ = some (.int .i64 y2) ∧ wr.cell? ⟨mb, 3, none⟩ = some (.int .i64 y3)) (fun _ i _ => (4 - intOf i).toNat)
  case atStart => exact ⟨.inl ⟨rfl, rfl⟩, BB, l0, l1, l2, l3, m0, m1, m2, m3⟩
  case round =>
    clear BB l0 l1 l2 l3 m0 m1 m2 m3 C
    obtain ⟨hk, BB, l0, l1, l2, l3, m0, m1, m2, m3⟩ := hrel
    rcases hk with ⟨rfl, rfl⟩ | ⟨rfl, rfl⟩ | ⟨rfl, rfl⟩ | ⟨rfl, rfl⟩ | ⟨rfl, rfl⟩
    · go_wp2_with fail
      have k_l0 := cell_regrown l0
      have k_l1 := cell_regrown l1
      have k_l2 := cell_regrown l2
      have k_l3 := cell_regrown l3
      have k_m0 := cell_regrown m0
      have k_m1 := cell_regrown m1
      have k_m2 := cell_regrown m2
      have k_m3 := cell_regrown m3
      refine wp_region_quiet_below (by kernel_rfl) (by kernel_rfl) ?_
      repeat (first | go_big_quiet_step ((first | (go_at_call 50; exact Calls.regrown_of (rsaturate_b _ _)))) | quiet_step ((first | (go_at_call 50; exact Calls.regrown_of (rsaturate_b _ _)))))
      refine wpQuiet_nil ?_
      intro W hw'
      have B := below_regrown' hw'
      clear hw' k_l0 k_l1 k_l2 k_l3 k_m0 k_m1 k_m2 k_m3
      replace BB := bon BB B
      replace l0 := cell_below B l0
      replace l1 := cell_below B l1
      replace l2 := cell_below B l2
      replace l3 := cell_below B l3
      replace m0 := cell_below B m0
      replace m1 := cell_below B m1
      replace m2 := cell_below B m2
      replace m3 := cell_below B m3
      go_wp2_with fail
      go_roundw
      case rel => exact ⟨.inr (.inl ⟨rfl, rfl⟩), BB, l0, l1, l2, l3, m0, m1, m2, m3⟩
      case measure => simp [intOf]
    · go_wp2_with fail
      have k_l0 := cell_regrown l0
      have k_l1 := cell_regrown l1
      have k_l2 := cell_regrown l2
      have k_l3 := cell_regrown l3
      have k_m0 := cell_regrown m0
      have k_m1 := cell_regrown m1
      have k_m2 := cell_regrown m2
      have k_m3 := cell_regrown m3
      refine wp_region_quiet_below (by kernel_rfl) (by kernel_rfl) ?_
      repeat (first | go_big_quiet_step ((first | (go_at_call 50; exact Calls.regrown_of (rsaturate_b _ _)))) | quiet_step ((first | (go_at_call 50; exact Calls.regrown_of (rsaturate_b _ _)))))
      refine wpQuiet_nil ?_
      intro W hw'
      have B := below_regrown' hw'
      clear hw' k_l0 k_l1 k_l2 k_l3 k_m0 k_m1 k_m2 k_m3
      replace BB := bon BB B
      replace l0 := cell_below B l0
      replace l1 := cell_below B l1
      replace l2 := cell_below B l2
      replace l3 := cell_below B l3
      replace m0 := cell_below B m0
      replace m1 := cell_below B m1
      replace m2 := cell_below B m2
      replace m3 := cell_below B m3
      go_wp2_with fail
      go_roundw
      case rel => exact ⟨.inr (.inr (.inl ⟨rfl, rfl⟩)), BB, l0, l1, l2, l3, m0, m1, m2, m3⟩
      case measure => simp [intOf]
    · go_wp2_with fail
      have k_l0 := cell_regrown l0
      have k_l1 := cell_regrown l1
      have k_l2 := cell_regrown l2
      have k_l3 := cell_regrown l3
      have k_m0 := cell_regrown m0
      have k_m1 := cell_regrown m1
      have k_m2 := cell_regrown m2
      have k_m3 := cell_regrown m3
      refine wp_region_quiet_below (by kernel_rfl) (by kernel_rfl) ?_
      repeat (first | go_big_quiet_step ((first | (go_at_call 50; exact Calls.regrown_of (rsaturate_b _ _)))) | quiet_step ((first | (go_at_call 50; exact Calls.regrown_of (rsaturate_b _ _)))))
      refine wpQuiet_nil ?_
      intro W hw'
      have B := below_regrown' hw'
      clear hw' k_l0 k_l1 k_l2 k_l3 k_m0 k_m1 k_m2 k_m3
      replace BB := bon BB B
      replace l0 := cell_below B l0
      replace l1 := cell_below B l1
      replace l2 := cell_below B l2
      replace l3 := cell_below B l3
      replace m0 := cell_below B m0
      replace m1 := cell_below B m1
      replace m2 := cell_below B m2
      replace m3 := cell_below B m3
      go_wp2_with fail
      go_roundw
      case rel => exact ⟨.inr (.inr (.inr (.inl ⟨rfl, rfl⟩))), BB, l0, l1, l2, l3, m0, m1, m2, m3⟩
      case measure => simp [intOf]
    · go_wp2_with fail
      have k_l0 := cell_regrown l0
      have k_l1 := cell_regrown l1
      have k_l2 := cell_regrown l2
      have k_l3 := cell_regrown l3
      have k_m0 := cell_regrown m0
      have k_m1 := cell_regrown m1
      have k_m2 := cell_regrown m2
      have k_m3 := cell_regrown m3
      refine wp_region_quiet_below (by kernel_rfl) (by kernel_rfl) ?_
      repeat (first | go_big_quiet_step ((first | (go_at_call 50; exact Calls.regrown_of (rsaturate_b _ _)))) | quiet_step ((first | (go_at_call 50; exact Calls.regrown_of (rsaturate_b _ _)))))
      refine wpQuiet_nil ?_
      intro W hw'
      have B := below_regrown' hw'
      clear hw' k_l0 k_l1 k_l2 k_l3 k_m0 k_m1 k_m2 k_m3
      replace BB := bon BB B
      replace l0 := cell_below B l0
      replace l1 := cell_below B l1
      replace l2 := cell_below B l2
      replace l3 := cell_below B l3
      replace m0 := cell_below B m0
      replace m1 := cell_below B m1
      replace m2 := cell_below B m2
      replace m3 := cell_below B m3
      go_wp2_with fail
      go_roundw
      case rel => exact ⟨.inr (.inr (.inr (.inr ⟨rfl, rfl⟩))), BB, l0, l1, l2, l3, m0, m1, m2, m3⟩
      case measure => simp [intOf]
    · go_wp2_with (first | (go_at_call 56; refine (rrounddiv_b _ _ _).mono ?_; rintro _ _ ⟨rfl, B⟩; replace BB := bon BB B; replace l0 := cell_below B l0; replace l1 := cell_below B l1; replace l2 := cell_below B l2; replace l3 := cell_below B l3; replace m0 := cell_below B m0; replace m1 := cell_below B m1; replace m2 := cell_below B m2; replace m3 := cell_below B m3) | (go_at_call 50; refine (rsaturate_b _ _).mono ?_; rintro _ _ ⟨rfl, B⟩; replace BB := bon BB B; replace l0 := cell_below B l0; replace l1 := cell_below B l1; replace l2 := cell_below B l2; replace l3 := cell_below B l3; replace m0 := cell_below B m0; replace m1 := cell_below B m1; replace m2 := cell_below B m2; replace m3 := cell_below B m3))
      go_ret
      exact ⟨rfl, BB⟩

end Go.Proofs.Ytlchecnencbamaa
