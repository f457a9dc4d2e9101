/- The walk of the law VecLists. -/
import Derived.Test.YtaonchonpikfmaaVUnit
import Derived.Test.YtaonchonpikfmaaGrow
import Derived.Test.YtaonchonpikfmaaInts
namespace Go.Proofs.Ytaonchonpikfmaa
open Go.RowKit Go.Sort

theorem argsap (w : World) (a0 a1 a2 a3 p0 p1 : Value) (t u : TypeId) :
    Below w.heap.size w ((w.alloc (.cells #[a0, a1, a2, a3] t)).alloc (.cells #[p0, p1] u)) ∧
    ((w.alloc (.cells #[a0, a1, a2, a3] t)).alloc (.cells #[p0, p1] u)).cell? ⟨w.heap.size, 0, none⟩ = some (a0) ∧
    ((w.alloc (.cells #[a0, a1, a2, a3] t)).alloc (.cells #[p0, p1] u)).cell? ⟨w.heap.size, 1, none⟩ = some (a1) ∧
    ((w.alloc (.cells #[a0, a1, a2, a3] t)).alloc (.cells #[p0, p1] u)).cell? ⟨w.heap.size, 2, none⟩ = some (a2) ∧
    ((w.alloc (.cells #[a0, a1, a2, a3] t)).alloc (.cells #[p0, p1] u)).cell? ⟨w.heap.size, 3, none⟩ = some (a3) ∧
    ((w.alloc (.cells #[a0, a1, a2, a3] t)).alloc (.cells #[p0, p1] u)).cell? ⟨w.heap.size + 1, 0, none⟩ = some (p0) ∧
    ((w.alloc (.cells #[a0, a1, a2, a3] t)).alloc (.cells #[p0, p1] u)).cell? ⟨w.heap.size + 1, 1, none⟩ = some (p1) := by
  have BB : Below w.heap.size w w := Below.refl _ _
  have z0 : w.heap.size = w.heap.size := by simp
  obtain ⟨B, BB⟩ := box_on BB #[a0, a1, a2, a3] t
  have p0_0 := box_cell w #[a0, a1, a2, a3] t 0 _ rfl
  have p0_1 := box_cell w #[a0, a1, a2, a3] t 1 _ rfl
  have p0_2 := box_cell w #[a0, a1, a2, a3] t 2 _ rfl
  have p0_3 := box_cell w #[a0, a1, a2, a3] t 3 _ rfl
  rw [z0] at p0_0 p0_1 p0_2 p0_3
  have z1 : (w.alloc (.cells #[a0, a1, a2, a3] t)).heap.size = w.heap.size + 1 := by simp
  obtain ⟨B, BB⟩ := box_on BB #[p0, p1] u
  replace p0_0 := cell_below B p0_0
  replace p0_1 := cell_below B p0_1
  replace p0_2 := cell_below B p0_2
  replace p0_3 := cell_below B p0_3
  have p1_0 := box_cell (w.alloc (.cells #[a0, a1, a2, a3] t)) #[p0, p1] u 0 _ rfl
  have p1_1 := box_cell (w.alloc (.cells #[a0, a1, a2, a3] t)) #[p0, p1] u 1 _ rfl
  rw [z1] at p1_0 p1_1
  exact ⟨BB, p0_0, p0_1, p0_2, p0_3, p1_0, p1_1⟩

set_option maxRecDepth 100000 in
theorem rof_nil (p : Option Addr) (cap : Nat) (w : World) :
    Calls Try.prog 31 #[.slice p 0 cap] w fun e w' => e = .returned (.agg #[.int .i64 0, .int .i64 0, .int .i64 0, .int .i64 0]) ∧ Below w.heap.size w w' := by
  have hst := Lib.hid (OfW.start w)
  go_enter Try.func31, Try.ntmps31
  go_wp2_with fail
  go_loopw [4] (fun i wr => i = .int .i64 0 ∧ OfW w 0 0 0 0 wr) (fun i _ => (4 - intOf i).toNat)
  case atStart => exact ⟨rfl, hst.out⟩
  case round =>
    clear hst
    obtain ⟨rfl, hW⟩ := hrel
    obtain ⟨BB, d0, d1, d2, d3, c0, c1, c2, c3, f0, f1, f2, f3, q0, q1, q2, q3⟩ := hW
    go_wp2_with fail
    exact bodyPost_ret (v := .agg #[.int .i64 0, .int .i64 0, .int .i64 0, .int .i64 0]) (by simp [results, Try.results31, go_sem, *]) rfl ⟨rfl, (((BB.setCell (by simp) _).setCell (by simp) _).setCell (by simp) _).setCell (by simp) _⟩

theorem of_some (b off n cap : Nat) (g0 g1 g2 g3 : Int) (w : World) (h0 : 0 < n → w.cell? ⟨b, off, none⟩ = some (.int .i64 g0)) (h1 : 1 < n → w.cell? ⟨b, off + 1, none⟩ = some (.int .i64 g1))
    (h2 : 2 < n → w.cell? ⟨b, off + 2, none⟩ = some (.int .i64 g2)) (h3 : 3 < n → w.cell? ⟨b, off + 3, none⟩ = some (.int .i64 g3)) :
    Calls Try.prog 30 #[.slice (some ⟨b, off, none⟩) n cap] w fun e w' => e = .returned (.agg #[.int .i64 (ofv n 0 g0), .int .i64 (ofv n 1 g1), .int .i64 (ofv n 2 g2), .int .i64 (ofv n 3 g3)]) ∧ Below w.heap.size w w' := by
  have hc : n = 0 ∨ n = 1 ∨ n = 2 ∨ n = 3 ∨ 4 ≤ n := by omega
  rcases hc with rfl | rfl | rfl | rfl | hn
  · exact of_nil _ cap w
  · exact of_1 b off cap g0 w (h0 (by omega))
  · exact of_2 b off cap g0 g1 w (h0 (by omega)) (h1 (by omega))
  · exact of_3 b off cap g0 g1 g2 w (h0 (by omega)) (h1 (by omega)) (h2 (by omega))
  · rw [show ofv n 0 g0 = g0 from if_pos (by omega), show ofv n 1 g1 = g1 from if_pos (by omega), show ofv n 2 g2 = g2 from if_pos (by omega), show ofv n 3 g3 = g3 from if_pos (by omega)]
    exact of_4 b off n cap g0 g1 g2 g3 w hn (h0 (by omega)) (h1 (by omega)) (h2 (by omega)) (h3 (by omega))

set_option maxRecDepth 100000 in
set_option maxHeartbeats 2000000 in
theorem lists_walk (lv : Value) (o0 o1 o2 o3 x0 x1 x2 x3 j x : Int) (w : World)
    (hof : ∀ W, Below w.heap.size w W → Calls Try.prog 30 #[lv] W fun e w' => e = .returned (.agg #[.int .i64 o0, .int .i64 o1, .int .i64 o2, .int .i64 o3]) ∧ Below W.heap.size W w')
    (hrof : ∀ W, Below w.heap.size w W → Calls Try.prog 31 #[lv] W fun e w' => e = .returned (.agg #[.int .i64 o0, .int .i64 o1, .int .i64 o2, .int .i64 o3]) ∧ Below W.heap.size W w') :
    Calls Try.prog 5 #[lv, .agg #[.int .i64 x0, .int .i64 x1, .int .i64 x2, .int .i64 x3], .agg #[.int .i64 j, .int .i64 x]] w fun e w' => e = .returned (.bool true) ∧ Below w.heap.size w w' := by
  obtain ⟨BB, a0, a1, a2, a3, p0, p1⟩ := argsap w (.int .i64 x0) (.int .i64 x1) (.int .i64 x2) (.int .i64 x3) (.int .i64 j) (.int .i64 x) 23 33
  have HO := Lib.hid hof
  have HR := Lib.hid hrof
  clear hof hrof
  go_enter Try.func5, Try.ntmps5
  go_wp2_with (go_at_call 28; refine (list_b _ _ _ _ _).mono ?_; rintro _ _ ⟨mb, rfl, m0, m1, m2, m3, B⟩; (replace BB := bon BB B; replace a0 := cell_below B a0; replace a1 := cell_below B a1; replace a2 := cell_below B a2; replace a3 := cell_below B a3; replace p0 := cell_below B p0; replace p1 := cell_below B p1))
  go_loopw [8] (fun i w' => (i = .int .i64 0 ∨ i = .int .i64 1 ∨ i = .int .i64 2 ∨ i = .int .i64 3 ∨ i = .int .i64 4) ∧ Below w.heap.size w w' ∧ w'.cell? ⟨w.heap.size, 0, none⟩ = some (.int .i64 x0) ∧ w'.cell? ⟨w.heap.size, 1, none⟩ = some (.int .i64 x1) ∧ w'.cell? ⟨w.heap.size, 2, none⟩ = some (.int .i64 x2) ∧ w'.cell? ⟨w.heap.size, 3, none⟩ = some (.int .i64 x3) ∧ w'.cell? ⟨w.heap.size + 1, 0, none⟩ = some (.int .i64 j) ∧ w'.cell? ⟨w.heap.size + 1, 1, none⟩ = some (.int .i64 x) ∧ w'.cell? ⟨mb, 0, none⟩ = some (.int .i64 x0) ∧ w'.cell? ⟨mb, 1, none⟩ = some (.int .i64 x1) ∧ w'.cell? ⟨mb, 2, none⟩ = some (.int .i64 x2) ∧ w'.cell? ⟨mb, 3, none⟩ = some (.int .i64 x3)) (fun i _ => (4 - intOf i).toNat)
  case atStart => exact ⟨.inl rfl, BB, a0, a1, a2, a3, p0, p1, m0, m1, m2, m3⟩
  case round =>
    clear BB a0 a1 a2 a3 p0 p1 m0 m1 m2 m3 B
    obtain ⟨hk, BB, a0, a1, a2, a3, p0, p1, m0, m1, m2, m3⟩ := hrel
    rcases hk with rfl | rfl | rfl | rfl | rfl
    · go_wp2_with fail
      refine wp_region_grow [0, 1, 2, 3, 4, 6, 5, 7, 8, 9] (by kernel_rfl) (by kernel_rfl) ?_
      intro W B
      replace BB := bon BB B
      replace a0 := cell_below B a0
      replace a1 := cell_below B a1
      replace a2 := cell_below B a2
      replace a3 := cell_below B a3
      replace p0 := cell_below B p0
      replace p1 := cell_below B p1
      replace m0 := cell_below B m0
      replace m1 := cell_below B m1
      replace m2 := cell_below B m2
      replace m3 := cell_below B m3
      clear B
      have k_a0 := cell_regrown a0
      have k_a1 := cell_regrown a1
      have k_a2 := cell_regrown a2
      have k_a3 := cell_regrown a3
      have k_p0 := cell_regrown p0
      have k_p1 := cell_regrown p1
      have k_m0 := cell_regrown m0
      have k_m1 := cell_regrown m1
      have k_m2 := cell_regrown m2
      have k_m3 := cell_regrown m3
      refine grow_read rfl rfl ?_
      (first | go_big_quiet_step (fail) | quiet_step (fail))
      refine wpQuiet_nil ?_
      refine grow_read rfl rfl ?_
      (first | go_big_quiet_step (fail) | quiet_step (fail))
      refine wpQuiet_nil ?_
      refine grow_read rfl rfl ?_
      (first | go_big_quiet_step (fail) | quiet_step (fail))
      refine wpQuiet_nil ?_
      refine grow_read rfl rfl ?_
      (first | go_big_quiet_step (fail) | quiet_step (fail))
      refine wpQuiet_nil ?_
      refine grow_read rfl rfl ?_
      (first | go_big_quiet_step (fail) | quiet_step (fail))
      refine wpQuiet_nil ?_
      refine grow_read rfl rfl ?_
      (first | go_big_quiet_step (fail) | quiet_step (fail))
      refine wpQuiet_nil ?_
      clear k_a0 k_a1 k_a2 k_a3 k_p0 k_p1 k_m0 k_m1 k_m2 k_m3
      refine grow_call rfl rfl ?_
      go_wp2_with (go_at_call 29; refine (rlist_b _ _ _ _ _).mono ?_; rintro _ _ ⟨lb, rfl, l0, l1, l2, l3, B⟩; replace BB := bon BB B; replace a0 := cell_below B a0; replace a1 := cell_below B a1; replace a2 := cell_below B a2; replace a3 := cell_below B a3; replace p0 := cell_below B p0; replace p1 := cell_below B p1; replace m0 := cell_below B m0; replace m1 := cell_below B m1; replace m2 := cell_below B m2; replace m3 := cell_below B m3)
      refine ⟨Grows.of B, ?_⟩
      clear B
      have k_a0 := cell_regrown a0
      have k_a1 := cell_regrown a1
      have k_a2 := cell_regrown a2
      have k_a3 := cell_regrown a3
      have k_p0 := cell_regrown p0
      have k_p1 := cell_regrown p1
      have k_m0 := cell_regrown m0
      have k_m1 := cell_regrown m1
      have k_m2 := cell_regrown m2
      have k_m3 := cell_regrown m3
      have k_l0 := cell_regrown l0
      have k_l1 := cell_regrown l1
      have k_l2 := cell_regrown l2
      have k_l3 := cell_regrown l3
      refine grow_read rfl rfl ?_
      (first | go_big_quiet_step (fail) | quiet_step (fail))
      refine wpQuiet_nil ?_
      refine grow_read rfl rfl ?_
      (first | go_big_quiet_step (fail) | quiet_step (fail))
      refine wpQuiet_nil ?_
      refine grow_read rfl rfl ?_
      (first | go_big_quiet_step (fail) | quiet_step (fail))
      refine wpQuiet_nil ?_
      clear k_a0 k_a1 k_a2 k_a3 k_p0 k_p1 k_m0 k_m1 k_m2 k_m3 k_l0 k_l1 k_l2 k_l3
      refine grow_nil ?_
      clear l0 l1 l2 l3
      go_wp2_with fail
      go_roundw
      case rel => exact ⟨.inr (.inl rfl), BB, a0, a1, a2, a3, p0, p1, m0, m1, m2, m3⟩
      case measure => simp [intOf]
    · go_wp2_with fail
      refine wp_region_grow [0, 1, 2, 3, 4, 6, 5, 7, 8, 9] (by kernel_rfl) (by kernel_rfl) ?_
      intro W B
      replace BB := bon BB B
      replace a0 := cell_below B a0
      replace a1 := cell_below B a1
      replace a2 := cell_below B a2
      replace a3 := cell_below B a3
      replace p0 := cell_below B p0
      replace p1 := cell_below B p1
      replace m0 := cell_below B m0
      replace m1 := cell_below B m1
      replace m2 := cell_below B m2
      replace m3 := cell_below B m3
      clear B
      have k_a0 := cell_regrown a0
      have k_a1 := cell_regrown a1
      have k_a2 := cell_regrown a2
      have k_a3 := cell_regrown a3
      have k_p0 := cell_regrown p0
      have k_p1 := cell_regrown p1
      have k_m0 := cell_regrown m0
      have k_m1 := cell_regrown m1
      have k_m2 := cell_regrown m2
      have k_m3 := cell_regrown m3
      refine grow_read rfl rfl ?_
      (first | go_big_quiet_step (fail) | quiet_step (fail))
      refine wpQuiet_nil ?_
      refine grow_read rfl rfl ?_
      (first | go_big_quiet_step (fail) | quiet_step (fail))
      refine wpQuiet_nil ?_
      refine grow_read rfl rfl ?_
      (first | go_big_quiet_step (fail) | quiet_step (fail))
      refine wpQuiet_nil ?_
      refine grow_read rfl rfl ?_
      (first | go_big_quiet_step (fail) | quiet_step (fail))
      refine wpQuiet_nil ?_
      refine grow_read rfl rfl ?_
      (first | go_big_quiet_step (fail) | quiet_step (fail))
      refine wpQuiet_nil ?_
      refine grow_read rfl rfl ?_
      (first | go_big_quiet_step (fail) | quiet_step (fail))
      refine wpQuiet_nil ?_
      clear k_a0 k_a1 k_a2 k_a3 k_p0 k_p1 k_m0 k_m1 k_m2 k_m3
      refine grow_call rfl rfl ?_
      go_wp2_with (go_at_call 29; refine (rlist_b _ _ _ _ _).mono ?_; rintro _ _ ⟨lb, rfl, l0, l1, l2, l3, B⟩; replace BB := bon BB B; replace a0 := cell_below B a0; replace a1 := cell_below B a1; replace a2 := cell_below B a2; replace a3 := cell_below B a3; replace p0 := cell_below B p0; replace p1 := cell_below B p1; replace m0 := cell_below B m0; replace m1 := cell_below B m1; replace m2 := cell_below B m2; replace m3 := cell_below B m3)
      refine ⟨Grows.of B, ?_⟩
      clear B
      have k_a0 := cell_regrown a0
      have k_a1 := cell_regrown a1
      have k_a2 := cell_regrown a2
      have k_a3 := cell_regrown a3
      have k_p0 := cell_regrown p0
      have k_p1 := cell_regrown p1
      have k_m0 := cell_regrown m0
      have k_m1 := cell_regrown m1
      have k_m2 := cell_regrown m2
      have k_m3 := cell_regrown m3
      have k_l0 := cell_regrown l0
      have k_l1 := cell_regrown l1
      have k_l2 := cell_regrown l2
      have k_l3 := cell_regrown l3
      refine grow_read rfl rfl ?_
      (first | go_big_quiet_step (fail) | quiet_step (fail))
      refine wpQuiet_nil ?_
      refine grow_read rfl rfl ?_
      (first | go_big_quiet_step (fail) | quiet_step (fail))
      refine wpQuiet_nil ?_
      refine grow_read rfl rfl ?_
      (first | go_big_quiet_step (fail) | quiet_step (fail))
      refine wpQuiet_nil ?_
      clear k_a0 k_a1 k_a2 k_a3 k_p0 k_p1 k_m0 k_m1 k_m2 k_m3 k_l0 k_l1 k_l2 k_l3
      refine grow_nil ?_
      clear l0 l1 l2 l3
      go_wp2_with fail
      go_roundw
      case rel => exact ⟨.inr (.inr (.inl rfl)), BB, a0, a1, a2, a3, p0, p1, m0, m1, m2, m3⟩
      case measure => simp [intOf]
    · go_wp2_with fail
      refine wp_region_grow [0, 1, 2, 3, 4, 6, 5, 7, 8, 9] (by kernel_rfl) (by kernel_rfl) ?_
      intro W B
      replace BB := bon BB B
      replace a0 := cell_below B a0
      replace a1 := cell_below B a1
      replace a2 := cell_below B a2
      replace a3 := cell_below B a3
      replace p0 := cell_below B p0
      replace p1 := cell_below B p1
      replace m0 := cell_below B m0
      replace m1 := cell_below B m1
      replace m2 := cell_below B m2
      replace m3 := cell_below B m3
      clear B
      have k_a0 := cell_regrown a0
      have k_a1 := cell_regrown a1
      have k_a2 := cell_regrown a2
      have k_a3 := cell_regrown a3
      have k_p0 := cell_regrown p0
      have k_p1 := cell_regrown p1
      have k_m0 := cell_regrown m0
      have k_m1 := cell_regrown m1
      have k_m2 := cell_regrown m2
      have k_m3 := cell_regrown m3
      refine grow_read rfl rfl ?_
      (first | go_big_quiet_step (fail) | quiet_step (fail))
      refine wpQuiet_nil ?_
      refine grow_read rfl rfl ?_
      (first | go_big_quiet_step (fail) | quiet_step (fail))
      refine wpQuiet_nil ?_
      refine grow_read rfl rfl ?_
      (first | go_big_quiet_step (fail) | quiet_step (fail))
      refine wpQuiet_nil ?_
      refine grow_read rfl rfl ?_
      (first | go_big_quiet_step (fail) | quiet_step (fail))
      refine wpQuiet_nil ?_
      refine grow_read rfl rfl ?_
      (first | go_big_quiet_step (fail) | quiet_step (fail))
      refine wpQuiet_nil ?_
      refine grow_read rfl rfl ?_
      (first | go_big_quiet_step (fail) | quiet_step (fail))
      refine wpQuiet_nil ?_
      clear k_a0 k_a1 k_a2 k_a3 k_p0 k_p1 k_m0 k_m1 k_m2 k_m3
      refine grow_call rfl rfl ?_
      go_wp2_with (go_at_call 29; refine (rlist_b _ _ _ _ _).mono ?_; rintro _ _ ⟨lb, rfl, l0, l1, l2, l3, B⟩; replace BB := bon BB B; replace a0 := cell_below B a0; replace a1 := cell_below B a1; replace a2 := cell_below B a2; replace a3 := cell_below B a3; replace p0 := cell_below B p0; replace p1 := cell_below B p1; replace m0 := cell_below B m0; replace m1 := cell_below B m1; replace m2 := cell_below B m2; replace m3 := cell_below B m3)
      refine ⟨Grows.of B, ?_⟩
      clear B
      have k_a0 := cell_regrown a0
      have k_a1 := cell_regrown a1
      have k_a2 := cell_regrown a2
      have k_a3 := cell_regrown a3
      have k_p0 := cell_regrown p0
      have k_p1 := cell_regrown p1
      have k_m0 := cell_regrown m0
      have k_m1 := cell_regrown m1
      have k_m2 := cell_regrown m2
      have k_m3 := cell_regrown m3
      have k_l0 := cell_regrown l0
      have k_l1 := cell_regrown l1
      have k_l2 := cell_regrown l2
      have k_l3 := cell_regrown l3
      refine grow_read rfl rfl ?_
      (first | go_big_quiet_step (fail) | quiet_step (fail))
      refine wpQuiet_nil ?_
      refine grow_read rfl rfl ?_
      (first | go_big_quiet_step (fail) | quiet_step (fail))
      refine wpQuiet_nil ?_
      refine grow_read rfl rfl ?_
      (first | go_big_quiet_step (fail) | quiet_step (fail))
      refine wpQuiet_nil ?_
      clear k_a0 k_a1 k_a2 k_a3 k_p0 k_p1 k_m0 k_m1 k_m2 k_m3 k_l0 k_l1 k_l2 k_l3
      refine grow_nil ?_
      clear l0 l1 l2 l3
      go_wp2_with fail
      go_roundw
      case rel => exact ⟨.inr (.inr (.inr (.inl rfl))), BB, a0, a1, a2, a3, p0, p1, m0, m1, m2, m3⟩
      case measure => simp [intOf]
    · go_wp2_with fail
      refine wp_region_grow [0, 1, 2, 3, 4, 6, 5, 7, 8, 9] (by kernel_rfl) (by kernel_rfl) ?_
      intro W B
      replace BB := bon BB B
      replace a0 := cell_below B a0
      replace a1 := cell_below B a1
      replace a2 := cell_below B a2
      replace a3 := cell_below B a3
      replace p0 := cell_below B p0
      replace p1 := cell_below B p1
      replace m0 := cell_below B m0
      replace m1 := cell_below B m1
      replace m2 := cell_below B m2
      replace m3 := cell_below B m3
      clear B
      have k_a0 := cell_regrown a0
      have k_a1 := cell_regrown a1
      have k_a2 := cell_regrown a2
      have k_a3 := cell_regrown a3
      have k_p0 := cell_regrown p0
      have k_p1 := cell_regrown p1
      have k_m0 := cell_regrown m0
      have k_m1 := cell_regrown m1
      have k_m2 := cell_regrown m2
      have k_m3 := cell_regrown m3
      refine grow_read rfl rfl ?_
      (first | go_big_quiet_step (fail) | quiet_step (fail))
      refine wpQuiet_nil ?_
      refine grow_read rfl rfl ?_
      (first | go_big_quiet_step (fail) | quiet_step (fail))
      refine wpQuiet_nil ?_
      refine grow_read rfl rfl ?_
      (first | go_big_quiet_step (fail) | quiet_step (fail))
      refine wpQuiet_nil ?_
      refine grow_read rfl rfl ?_
      (first | go_big_quiet_step (fail) | quiet_step (fail))
      refine wpQuiet_nil ?_
      refine grow_read rfl rfl ?_
      (first | go_big_quiet_step (fail) | quiet_step (fail))
      refine wpQuiet_nil ?_
      refine grow_read rfl rfl ?_
      (first | go_big_quiet_step (fail) | quiet_step (fail))
      refine wpQuiet_nil ?_
      clear k_a0 k_a1 k_a2 k_a3 k_p0 k_p1 k_m0 k_m1 k_m2 k_m3
      refine grow_call rfl rfl ?_
      go_wp2_with (go_at_call 29; refine (rlist_b _ _ _ _ _).mono ?_; rintro _ _ ⟨lb, rfl, l0, l1, l2, l3, B⟩; replace BB := bon BB B; replace a0 := cell_below B a0; replace a1 := cell_below B a1; replace a2 := cell_below B a2; replace a3 := cell_below B a3; replace p0 := cell_below B p0; replace p1 := cell_below B p1; replace m0 := cell_below B m0; replace m1 := cell_below B m1; replace m2 := cell_below B m2; replace m3 := cell_below B m3)
      refine ⟨Grows.of B, ?_⟩
      clear B
      have k_a0 := cell_regrown a0
      have k_a1 := cell_regrown a1
      have k_a2 := cell_regrown a2
      have k_a3 := cell_regrown a3
      have k_p0 := cell_regrown p0
      have k_p1 := cell_regrown p1
      have k_m0 := cell_regrown m0
      have k_m1 := cell_regrown m1
      have k_m2 := cell_regrown m2
      have k_m3 := cell_regrown m3
      have k_l0 := cell_regrown l0
      have k_l1 := cell_regrown l1
      have k_l2 := cell_regrown l2
      have k_l3 := cell_regrown l3
      refine grow_read rfl rfl ?_
      (first | go_big_quiet_step (fail) | quiet_step (fail))
      refine wpQuiet_nil ?_
      refine grow_read rfl rfl ?_
      (first | go_big_quiet_step (fail) | quiet_step (fail))
      refine wpQuiet_nil ?_
      refine grow_read rfl rfl ?_
      (first | go_big_quiet_step (fail) | quiet_step (fail))
      refine wpQuiet_nil ?_
      clear k_a0 k_a1 k_a2 k_a3 k_p0 k_p1 k_m0 k_m1 k_m2 k_m3 k_l0 k_l1 k_l2 k_l3
      refine grow_nil ?_
      clear l0 l1 l2 l3
      go_wp2_with fail
      go_roundw
      case rel => exact ⟨.inr (.inr (.inr (.inr rfl))), BB, a0, a1, a2, a3, p0, p1, m0, m1, m2, m3⟩
      case measure => simp [intOf]
    · go_wp2_with fail
      have k_a0 := cell_regrown a0
      have k_a1 := cell_regrown a1
      have k_a2 := cell_regrown a2
      have k_a3 := cell_regrown a3
      have k_p0 := cell_regrown p0
      have k_p1 := cell_regrown p1
      have k_m0 := cell_regrown m0
      have k_m1 := cell_regrown m1
      have k_m2 := cell_regrown m2
      have k_m3 := cell_regrown m3
      refine wp_region_quiet_below (by kernel_rfl) (by kernel_rfl) ?_
      repeat (first | go_big_quiet_step ((first | (go_at_call 30; exact Calls.regrown_of (HO.out _ (bon BB (below_regrown _ _ _)))) | (go_at_call 31; exact Calls.regrown_of (HR.out _ (bon BB (below_regrown _ _ _)))) | (go_at_call 32; exact Calls.regrown_of (comp_b _ _ _ _ _ _)) | (go_at_call 33; exact Calls.regrown_of (rcomp_b _ _ _ _ _ _)) | (go_at_call 34; exact Calls.regrown_of (with_b _ _ _ _ _ _ _)) | (go_at_call 35; exact Calls.regrown_of (rwith_b _ _ _ _ _ _ _)) | (go_at_call 25; exact Calls.regrown_of (example_b _)))) | quiet_step ((first | (go_at_call 30; exact Calls.regrown_of (HO.out _ (bon BB (below_regrown _ _ _)))) | (go_at_call 31; exact Calls.regrown_of (HR.out _ (bon BB (below_regrown _ _ _)))) | (go_at_call 32; exact Calls.regrown_of (comp_b _ _ _ _ _ _)) | (go_at_call 33; exact Calls.regrown_of (rcomp_b _ _ _ _ _ _)) | (go_at_call 34; exact Calls.regrown_of (with_b _ _ _ _ _ _ _)) | (go_at_call 35; exact Calls.regrown_of (rwith_b _ _ _ _ _ _ _)) | (go_at_call 25; exact Calls.regrown_of (example_b _)))))
      refine wpQuiet_nil ?_
      intro W hw'
      have B := below_regrown' hw'
      clear hw' k_a0 k_a1 k_a2 k_a3 k_p0 k_p1 k_m0 k_m1 k_m2 k_m3
      replace BB := bon BB B
      replace a0 := cell_below B a0
      replace a1 := cell_below B a1
      replace a2 := cell_below B a2
      replace a3 := cell_below B a3
      replace p0 := cell_below B p0
      replace p1 := cell_below B p1
      replace m0 := cell_below B m0
      replace m1 := cell_below B m1
      replace m2 := cell_below B m2
      replace m3 := cell_below B m3
      go_wp2_with fail
      go_ret
      exact ⟨rfl, BB⟩

theorem lists_walk_ints (lv : Value) (x0 x1 x2 x3 j x : Int) (w : World) (h : IntsAt w lv) :
    Calls Try.prog 5 #[lv, .agg #[.int .i64 x0, .int .i64 x1, .int .i64 x2, .int .i64 x3], .agg #[.int .i64 j, .int .i64 x]] w fun e w' => e = .returned (.bool true) ∧ Below w.heap.size w w' := by
  rcases h with ⟨p, cap, rfl⟩ | ⟨b, off, n, cap, g, rfl, hb, hc⟩
  · exact lists_walk (.slice p 0 cap) 0 0 0 0 x0 x1 x2 x3 j x w (fun W _ => of_nil p cap W) (fun W _ => rof_nil p cap W)
  · have k : ∀ W, Below w.heap.size w W → ∀ i, i < n → W.cell? ⟨b, off + i, none⟩ = some (.int .i64 (g i)) := fun W hW i hi => (hW.cell (p := ⟨b, off + i, none⟩) hb).trans (hc i hi)
    exact lists_walk _ (ofv n 0 (g 0)) (ofv n 1 (g 1)) (ofv n 2 (g 2)) (ofv n 3 (g 3)) x0 x1 x2 x3 j x w
      (fun W hW => of_some b off n cap (g 0) (g 1) (g 2) (g 3) W (k W hW 0) (k W hW 1) (k W hW 2) (k W hW 3))
      (fun W hW => rof_some b off n cap (g 0) (g 1) (g 2) (g 3) W (k W hW 0) (k W hW 1) (k W hW 2) (k W hW 3))

end Go.Proofs.Ytaonchonpikfmaa
