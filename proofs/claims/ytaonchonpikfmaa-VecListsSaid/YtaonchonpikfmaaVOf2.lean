/- What Of of the reference returns, and the chapter's example. -/
import Derived.Test.YtaonchonpikfmaaVOf
namespace Go.Proofs.Ytaonchonpikfmaa
open Go.RowKit Go.Sort

theorem rwith0_b (x0 x1 x2 x3 x : Int) (w : World) :
    Calls Try.prog 35 #[.agg #[.int .i64 x0, .int .i64 x1, .int .i64 x2, .int .i64 x3], .int .i64 0, .int .i64 x] w fun e w' => e = .returned (.agg #[.int .i64 x, .int .i64 x1, .int .i64 x2, .int .i64 x3]) ∧ Below w.heap.size w w' :=
  rwith_b x0 x1 x2 x3 0 x w

theorem rwith1_b (x0 x1 x2 x3 x : Int) (w : World) :
    Calls Try.prog 35 #[.agg #[.int .i64 x0, .int .i64 x1, .int .i64 x2, .int .i64 x3], .int .i64 1, .int .i64 x] w fun e w' => e = .returned (.agg #[.int .i64 x0, .int .i64 x, .int .i64 x2, .int .i64 x3]) ∧ Below w.heap.size w w' :=
  rwith_b x0 x1 x2 x3 1 x w

theorem rwith2_b (x0 x1 x2 x3 x : Int) (w : World) :
    Calls Try.prog 35 #[.agg #[.int .i64 x0, .int .i64 x1, .int .i64 x2, .int .i64 x3], .int .i64 2, .int .i64 x] w fun e w' => e = .returned (.agg #[.int .i64 x0, .int .i64 x1, .int .i64 x, .int .i64 x3]) ∧ Below w.heap.size w w' :=
  rwith_b x0 x1 x2 x3 2 x w

theorem rwith3_b (x0 x1 x2 x3 x : Int) (w : World) :
    Calls Try.prog 35 #[.agg #[.int .i64 x0, .int .i64 x1, .int .i64 x2, .int .i64 x3], .int .i64 3, .int .i64 x] w fun e w' => e = .returned (.agg #[.int .i64 x0, .int .i64 x1, .int .i64 x2, .int .i64 x]) ∧ Below w.heap.size w w' :=
  rwith_b x0 x1 x2 x3 3 x w

/-- The worlds of Of's loop: the result's block lies as it was laid, the vector's block behind it holds v0 to v3. -/
def OfW (w : World) (v0 v1 v2 v3 : Int) (W : World) : Prop :=
  Below w.heap.size w W ∧ W.cell? ⟨w.heap.size, 0, none⟩ = some (.int .i64 0) ∧ W.cell? ⟨w.heap.size, 1, none⟩ = some (.int .i64 0) ∧ W.cell? ⟨w.heap.size, 2, none⟩ = some (.int .i64 0) ∧ W.cell? ⟨w.heap.size, 3, none⟩ = some (.int .i64 0) ∧
  W.cell? ⟨w.heap.size + 1, 0, none⟩ = some (.int .i64 v0) ∧ W.cell? ⟨w.heap.size + 1, 1, none⟩ = some (.int .i64 v1) ∧ W.cell? ⟨w.heap.size + 1, 2, none⟩ = some (.int .i64 v2) ∧ W.cell? ⟨w.heap.size + 1, 3, none⟩ = some (.int .i64 v3) ∧
  W.frozen? ⟨w.heap.size, 0, none⟩ = false ∧ W.frozen? ⟨w.heap.size, 1, none⟩ = false ∧ W.frozen? ⟨w.heap.size, 2, none⟩ = false ∧ W.frozen? ⟨w.heap.size, 3, none⟩ = false ∧
  W.frozen? ⟨w.heap.size + 1, 0, none⟩ = false ∧ W.frozen? ⟨w.heap.size + 1, 1, none⟩ = false ∧ W.frozen? ⟨w.heap.size + 1, 2, none⟩ = false ∧ W.frozen? ⟨w.heap.size + 1, 3, none⟩ = false

theorem OfW.start (w : World) : OfW w 0 0 0 0 ((w.alloc (.cells #[.int .i64 0, .int .i64 0, .int .i64 0, .int .i64 0] 23)).alloc (.cells #[.int .i64 0, .int .i64 0, .int .i64 0, .int .i64 0] 23)) :=
  argsoo w 23 23

/-- The vector's block is written anew. -/
theorem OfW.put {w : World} {v0 v1 v2 v3 : Int} {W : World} (h : OfW w v0 v1 v2 v3 W) (u0 u1 u2 u3 : Int) :
    OfW w u0 u1 u2 u3 ((((W.setCell ⟨w.heap.size + 1, 0, none⟩ (.int .i64 u0)).setCell ⟨w.heap.size + 1, 1, none⟩ (.int .i64 u1)).setCell ⟨w.heap.size + 1, 2, none⟩ (.int .i64 u2)).setCell ⟨w.heap.size + 1, 3, none⟩ (.int .i64 u3)) := by
  obtain ⟨BB, d0, d1, d2, d3, c0, c1, c2, c3, f0, f1, f2, f3, g0, g1, g2, g3⟩ := h
  refine ⟨((((BB.setCell (by simp) _).setCell (by simp) _).setCell (by simp) _).setCell (by simp) _), ?_, ?_, ?_, ?_, ?_, ?_, ?_, ?_, ?_, ?_, ?_, ?_, ?_, ?_, ?_, ?_⟩ <;> simp [go_sem, *]

/-- How far Of's loop has come: i elements of the list of n. -/
def OfS (n : Nat) (g0 g1 g2 g3 : Int) (i : Value) (v0 v1 v2 v3 : Int) : Prop :=
  (i = .int .i64 0 ∧ v0 = 0 ∧ v1 = 0 ∧ v2 = 0 ∧ v3 = 0) ∨ (i = .int .i64 1 ∧ 1 ≤ n ∧ g0 = v0 ∧ v1 = 0 ∧ v2 = 0 ∧ v3 = 0) ∨ (i = .int .i64 2 ∧ 2 ≤ n ∧ g0 = v0 ∧ g1 = v1 ∧ v2 = 0 ∧ v3 = 0) ∨
  (i = .int .i64 3 ∧ 3 ≤ n ∧ g0 = v0 ∧ g1 = v1 ∧ g2 = v2 ∧ v3 = 0) ∨ (i = .int .i64 4 ∧ 4 ≤ n ∧ g0 = v0 ∧ g1 = v1 ∧ g2 = v2 ∧ g3 = v3)

set_option maxRecDepth 100000 in
theorem rof_some (b off n cap : Nat) (g0 g1 g2 g3 : Int) (w : World) (h0 : 0 < n → w.cell? ⟨b, off, none⟩ = some (.int .i64 g0)) (h1 : 1 < n → w.cell? ⟨b, off + 1, none⟩ = some (.int .i64 g1))
    (h2 : 2 < n → w.cell? ⟨b, off + 2, none⟩ = some (.int .i64 g2)) (h3 : 3 < n → w.cell? ⟨b, off + 3, none⟩ = some (.int .i64 g3)) :
    Calls Try.prog 31 #[.slice (some ⟨b, off, none⟩) n cap] w fun e w' => e = .returned (.agg #[.int .i64 (ofv n 0 g0), .int .i64 (ofv n 1 g1), .int .i64 (ofv n 2 g2), .int .i64 (ofv n 3 g3)]) ∧ Below w.heap.size w w' := by
  have H0 := Lib.hid h0
  have H1 := Lib.hid h1
  have H2 := Lib.hid h2
  have H3 := Lib.hid h3
  clear h0 h1 h2 h3
  have hst := Lib.hid (OfW.start w)
  go_enter Try.func31, Try.ntmps31
  go_wp2_with fail
  go_loopw [4] (fun i wr => ∃ v0 v1 v2 v3 : Int, OfS n g0 g1 g2 g3 i v0 v1 v2 v3 ∧ OfW w v0 v1 v2 v3 wr) (fun i _ => (4 - intOf i).toNat)
  case atStart => exact ⟨0, 0, 0, 0, .inl ⟨rfl, rfl, rfl, rfl, rfl⟩, hst.out⟩
  case round =>
    clear hst
    obtain ⟨v0, v1, v2, v3, hS, hW⟩ := hrel
    have HW := Lib.hid hW
    obtain ⟨BB, d0, d1, d2, d3, c0, c1, c2, c3, f0, f1, f2, f3, p0, p1, p2, p3⟩ := hW
    rcases hS with ⟨rfl, rfl, rfl, rfl, rfl⟩ | ⟨rfl, hn, rfl, rfl, rfl, rfl⟩ | ⟨rfl, hn, rfl, rfl, rfl, rfl⟩ | ⟨rfl, hn, rfl, rfl, rfl, rfl⟩ | ⟨rfl, hn, rfl, rfl, rfl, rfl⟩
    · by_cases hj : 0 < n
      · have hji : (0 : Int) < (n : Int) := by omega
        have lj := cell_below BB (H0.out hj)
        have HN := Lib.hid hj
        clear hj
        go_wp2_with fail
        have k_d0 := cell_regrown d0
        have k_d1 := cell_regrown d1
        have k_d2 := cell_regrown d2
        have k_d3 := cell_regrown d3
        have k_c0 := cell_regrown c0
        have k_c1 := cell_regrown c1
        have k_c2 := cell_regrown c2
        have k_c3 := cell_regrown c3
        have k_lj := cell_regrown lj
        refine wp_region_tail (n := 7) (by kernel_rfl) (by kernel_rfl) ?_
        simp only [List.take_succ_cons, List.take_zero, List.drop_succ_cons, List.drop_zero]
        repeat (first | go_big_quiet_step ((first | (go_at_call 35; exact Calls.regrown_of (rwith0_b _ _ _ _ _ _)))) | quiet_step ((first | (go_at_call 35; exact Calls.regrown_of (rwith0_b _ _ _ _ _ _)))))
        refine wpQuiet_nil ?_
        intro W hw'
        have B := below_regrown' hw'
        clear hw' k_d0 k_d1 k_d2 k_d3 k_c0 k_c1 k_c2 k_c3 k_lj
        replace BB := bon BB B
        replace f0 := frozen_below B d0 f0
        replace f1 := frozen_below B d1 f1
        replace f2 := frozen_below B d2 f2
        replace f3 := frozen_below B d3 f3
        replace p0 := frozen_below B c0 p0
        replace p1 := frozen_below B c1 p1
        replace p2 := frozen_below B c2 p2
        replace p3 := frozen_below B c3 p3
        replace d0 := cell_below B d0
        replace d1 := cell_below B d1
        replace d2 := cell_below B d2
        replace d3 := cell_below B d3
        replace c0 := cell_below B c0
        replace c1 := cell_below B c1
        replace c2 := cell_below B c2
        replace c3 := cell_below B c3
        replace lj := cell_below B lj
        go_wp2_with fail
        go_roundw
        case rel => exact ⟨_, _, _, _, .inr (.inl ⟨rfl, HN.out, rfl, rfl, rfl, rfl⟩), OfW.put (show OfW w 0 0 0 0 _ from ⟨BB, d0, d1, d2, d3, c0, c1, c2, c3, f0, f1, f2, f3, p0, p1, p2, p3⟩) g0 0 0 0⟩
        case measure => simp [intOf]
      · have hji : ¬ (0 : Int) < (n : Int) := by omega
        have HN := Lib.hid hj
        skip
        clear hj
        go_wp2_with fail
        rw [show ofv n 0 g0 = 0 from if_neg (by have := HN.out; omega), show ofv n 1 g1 = 0 from if_neg (by have := HN.out; omega), show ofv n 2 g2 = 0 from if_neg (by have := HN.out; omega), show ofv n 3 g3 = 0 from if_neg (by have := HN.out; omega)]
        exact bodyPost_ret (v := .agg #[.int .i64 0, .int .i64 0, .int .i64 0, .int .i64 0]) (by simp [results, Try.results31, go_sem, *]) rfl ⟨rfl, (((BB.setCell (by simp) _).setCell (by simp) _).setCell (by simp) _).setCell (by simp) _⟩
    · by_cases hj : 1 < n
      · have hji : (1 : Int) < (n : Int) := by omega
        have lj := cell_below BB (H1.out hj)
        have HN := Lib.hid hj
        clear hj hn
        go_wp2_with fail
        have k_d0 := cell_regrown d0
        have k_d1 := cell_regrown d1
        have k_d2 := cell_regrown d2
        have k_d3 := cell_regrown d3
        have k_c0 := cell_regrown c0
        have k_c1 := cell_regrown c1
        have k_c2 := cell_regrown c2
        have k_c3 := cell_regrown c3
        have k_lj := cell_regrown lj
        refine wp_region_tail (n := 7) (by kernel_rfl) (by kernel_rfl) ?_
        simp only [List.take_succ_cons, List.take_zero, List.drop_succ_cons, List.drop_zero]
        repeat (first | go_big_quiet_step ((first | (go_at_call 35; exact Calls.regrown_of (rwith1_b _ _ _ _ _ _)))) | quiet_step ((first | (go_at_call 35; exact Calls.regrown_of (rwith1_b _ _ _ _ _ _)))))
        refine wpQuiet_nil ?_
        intro W hw'
        have B := below_regrown' hw'
        clear hw' k_d0 k_d1 k_d2 k_d3 k_c0 k_c1 k_c2 k_c3 k_lj
        replace BB := bon BB B
        replace f0 := frozen_below B d0 f0
        replace f1 := frozen_below B d1 f1
        replace f2 := frozen_below B d2 f2
        replace f3 := frozen_below B d3 f3
        replace p0 := frozen_below B c0 p0
        replace p1 := frozen_below B c1 p1
        replace p2 := frozen_below B c2 p2
        replace p3 := frozen_below B c3 p3
        replace d0 := cell_below B d0
        replace d1 := cell_below B d1
        replace d2 := cell_below B d2
        replace d3 := cell_below B d3
        replace c0 := cell_below B c0
        replace c1 := cell_below B c1
        replace c2 := cell_below B c2
        replace c3 := cell_below B c3
        replace lj := cell_below B lj
        go_wp2_with fail
        go_roundw
        case rel => exact ⟨_, _, _, _, .inr (.inr (.inl ⟨rfl, HN.out, rfl, rfl, rfl, rfl⟩)), OfW.put (show OfW w g0 0 0 0 _ from ⟨BB, d0, d1, d2, d3, c0, c1, c2, c3, f0, f1, f2, f3, p0, p1, p2, p3⟩) g0 g1 0 0⟩
        case measure => simp [intOf]
      · have hji : ¬ (1 : Int) < (n : Int) := by omega
        have HN := Lib.hid hj
        have HM := Lib.hid hn
        clear hj hn
        go_wp2_with fail
        rw [show ofv n 0 g0 = g0 from if_pos (by have := HN.out; have := HM.out; omega), show ofv n 1 g1 = 0 from if_neg (by have := HN.out; have := HM.out; omega), show ofv n 2 g2 = 0 from if_neg (by have := HN.out; have := HM.out; omega), show ofv n 3 g3 = 0 from if_neg (by have := HN.out; have := HM.out; omega)]
        exact bodyPost_ret (v := .agg #[.int .i64 g0, .int .i64 0, .int .i64 0, .int .i64 0]) (by simp [results, Try.results31, go_sem, *]) rfl ⟨rfl, (((BB.setCell (by simp) _).setCell (by simp) _).setCell (by simp) _).setCell (by simp) _⟩
    · by_cases hj : 2 < n
      · have hji : (2 : Int) < (n : Int) := by omega
        have lj := cell_below BB (H2.out hj)
        have HN := Lib.hid hj
        clear hj hn
        go_wp2_with fail
        have k_d0 := cell_regrown d0
        have k_d1 := cell_regrown d1
        have k_d2 := cell_regrown d2
        have k_d3 := cell_regrown d3
        have k_c0 := cell_regrown c0
        have k_c1 := cell_regrown c1
        have k_c2 := cell_regrown c2
        have k_c3 := cell_regrown c3
        have k_lj := cell_regrown lj
        refine wp_region_tail (n := 7) (by kernel_rfl) (by kernel_rfl) ?_
        simp only [List.take_succ_cons, List.take_zero, List.drop_succ_cons, List.drop_zero]
        repeat (first | go_big_quiet_step ((first | (go_at_call 35; exact Calls.regrown_of (rwith2_b _ _ _ _ _ _)))) | quiet_step ((first | (go_at_call 35; exact Calls.regrown_of (rwith2_b _ _ _ _ _ _)))))
        refine wpQuiet_nil ?_
        intro W hw'
        have B := below_regrown' hw'
        clear hw' k_d0 k_d1 k_d2 k_d3 k_c0 k_c1 k_c2 k_c3 k_lj
        replace BB := bon BB B
        replace f0 := frozen_below B d0 f0
        replace f1 := frozen_below B d1 f1
        replace f2 := frozen_below B d2 f2
        replace f3 := frozen_below B d3 f3
        replace p0 := frozen_below B c0 p0
        replace p1 := frozen_below B c1 p1
        replace p2 := frozen_below B c2 p2
        replace p3 := frozen_below B c3 p3
        replace d0 := cell_below B d0
        replace d1 := cell_below B d1
        replace d2 := cell_below B d2
        replace d3 := cell_below B d3
        replace c0 := cell_below B c0
        replace c1 := cell_below B c1
        replace c2 := cell_below B c2
        replace c3 := cell_below B c3
        replace lj := cell_below B lj
        go_wp2_with fail
        go_roundw
        case rel => exact ⟨_, _, _, _, .inr (.inr (.inr (.inl ⟨rfl, HN.out, rfl, rfl, rfl, rfl⟩))), OfW.put (show OfW w g0 g1 0 0 _ from ⟨BB, d0, d1, d2, d3, c0, c1, c2, c3, f0, f1, f2, f3, p0, p1, p2, p3⟩) g0 g1 g2 0⟩
        case measure => simp [intOf]
      · have hji : ¬ (2 : Int) < (n : Int) := by omega
        have HN := Lib.hid hj
        have HM := Lib.hid hn
        clear hj hn
        go_wp2_with fail
        rw [show ofv n 0 g0 = g0 from if_pos (by have := HN.out; have := HM.out; omega), show ofv n 1 g1 = g1 from if_pos (by have := HN.out; have := HM.out; omega), show ofv n 2 g2 = 0 from if_neg (by have := HN.out; have := HM.out; omega), show ofv n 3 g3 = 0 from if_neg (by have := HN.out; have := HM.out; omega)]
        exact bodyPost_ret (v := .agg #[.int .i64 g0, .int .i64 g1, .int .i64 0, .int .i64 0]) (by simp [results, Try.results31, go_sem, *]) rfl ⟨rfl, (((BB.setCell (by simp) _).setCell (by simp) _).setCell (by simp) _).setCell (by simp) _⟩
    · by_cases hj : 3 < n
      · have hji : (3 : Int) < (n : Int) := by omega
        have lj := cell_below BB (H3.out hj)
        have HN := Lib.hid hj
        clear hj hn
        go_wp2_with fail
        have k_d0 := cell_regrown d0
        have k_d1 := cell_regrown d1
        have k_d2 := cell_regrown d2
        have k_d3 := cell_regrown d3
        have k_c0 := cell_regrown c0
        have k_c1 := cell_regrown c1
        have k_c2 := cell_regrown c2
        have k_c3 := cell_regrown c3
        have k_lj := cell_regrown lj
        refine wp_region_tail (n := 7) (by kernel_rfl) (by kernel_rfl) ?_
        simp only [List.take_succ_cons, List.take_zero, List.drop_succ_cons, List.drop_zero]
        repeat (first | go_big_quiet_step ((first | (go_at_call 35; exact Calls.regrown_of (rwith3_b _ _ _ _ _ _)))) | quiet_step ((first | (go_at_call 35; exact Calls.regrown_of (rwith3_b _ _ _ _ _ _)))))
        refine wpQuiet_nil ?_
        intro W hw'
        have B := below_regrown' hw'
        clear hw' k_d0 k_d1 k_d2 k_d3 k_c0 k_c1 k_c2 k_c3 k_lj
        replace BB := bon BB B
        replace f0 := frozen_below B d0 f0
        replace f1 := frozen_below B d1 f1
        replace f2 := frozen_below B d2 f2
        replace f3 := frozen_below B d3 f3
        replace p0 := frozen_below B c0 p0
        replace p1 := frozen_below B c1 p1
        replace p2 := frozen_below B c2 p2
        replace p3 := frozen_below B c3 p3
        replace d0 := cell_below B d0
        replace d1 := cell_below B d1
        replace d2 := cell_below B d2
        replace d3 := cell_below B d3
        replace c0 := cell_below B c0
        replace c1 := cell_below B c1
        replace c2 := cell_below B c2
        replace c3 := cell_below B c3
        replace lj := cell_below B lj
        go_wp2_with fail
        go_roundw
        case rel => exact ⟨_, _, _, _, .inr (.inr (.inr (.inr (⟨rfl, HN.out, rfl, rfl, rfl, rfl⟩)))), OfW.put (show OfW w g0 g1 g2 0 _ from ⟨BB, d0, d1, d2, d3, c0, c1, c2, c3, f0, f1, f2, f3, p0, p1, p2, p3⟩) g0 g1 g2 g3⟩
        case measure => simp [intOf]
      · have hji : ¬ (3 : Int) < (n : Int) := by omega
        have HN := Lib.hid hj
        have HM := Lib.hid hn
        clear hj hn
        go_wp2_with fail
        rw [show ofv n 0 g0 = g0 from if_pos (by have := HN.out; have := HM.out; omega), show ofv n 1 g1 = g1 from if_pos (by have := HN.out; have := HM.out; omega), show ofv n 2 g2 = g2 from if_pos (by have := HN.out; have := HM.out; omega), show ofv n 3 g3 = 0 from if_neg (by have := HN.out; have := HM.out; omega)]
        exact bodyPost_ret (v := .agg #[.int .i64 g0, .int .i64 g1, .int .i64 g2, .int .i64 0]) (by simp [results, Try.results31, go_sem, *]) rfl ⟨rfl, (((BB.setCell (by simp) _).setCell (by simp) _).setCell (by simp) _).setCell (by simp) _⟩
    · by_cases hj : 4 < n
      · have hji : (4 : Int) < (n : Int) := by omega
        have HN := Lib.hid hj
        clear hj hn
        go_wp2_with fail
        rw [show ofv n 0 g0 = g0 from if_pos (by have := HN.out; omega), show ofv n 1 g1 = g1 from if_pos (by have := HN.out; omega), show ofv n 2 g2 = g2 from if_pos (by have := HN.out; omega), show ofv n 3 g3 = g3 from if_pos (by have := HN.out; omega)]
        exact bodyPost_ret (v := .agg #[.int .i64 g0, .int .i64 g1, .int .i64 g2, .int .i64 g3]) (by simp [results, Try.results31, go_sem, *]) rfl ⟨rfl, (((BB.setCell (by simp) _).setCell (by simp) _).setCell (by simp) _).setCell (by simp) _⟩
      · have hji : ¬ (4 : Int) < (n : Int) := by omega
        have HN := Lib.hid hj
        have HM := Lib.hid hn
        clear hj hn
        go_wp2_with fail
        rw [show ofv n 0 g0 = g0 from if_pos (by have := HN.out; have := HM.out; omega), show ofv n 1 g1 = g1 from if_pos (by have := HN.out; have := HM.out; omega), show ofv n 2 g2 = g2 from if_pos (by have := HN.out; have := HM.out; omega), show ofv n 3 g3 = g3 from if_pos (by have := HN.out; have := HM.out; omega)]
        exact bodyPost_ret (v := .agg #[.int .i64 g0, .int .i64 g1, .int .i64 g2, .int .i64 g3]) (by simp [results, Try.results31, go_sem, *]) rfl ⟨rfl, (((BB.setCell (by simp) _).setCell (by simp) _).setCell (by simp) _).setCell (by simp) _⟩

end Go.Proofs.Ytaonchonpikfmaa
