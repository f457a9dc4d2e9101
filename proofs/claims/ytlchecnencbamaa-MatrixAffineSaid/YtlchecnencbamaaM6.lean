/- The walks of the laws MatrixBasics, MatrixApplies, MatrixTransposes. -/
import Derived.Test.YtlchecnencbamaaM5
namespace Go.Proofs.Ytlchecnencbamaa
open Go.RowKit Go.Sort

theorem meq (m : Nat → Int) (w : World) : (Op.equalIn 10000 23 (.agg (mats m)) (.agg (mats m))).run Try.prog w = .ok true w := by
  obtain ⟨i, hi⟩ := info_of_underlying Try.underlying3
  exact mat_eq Try.underlying23 hi (by kernel_rfl) (by kernel_rfl) Try.underlying3 m w

theorem mguard : Try.prog.eqGuardType Try.prog.depth 23 = false := by kernel_rfl

theorem dotv_comm' (x0 x1 x2 x3 y0 y1 y2 y3 : Int) : dotv y0 y1 y2 y3 x0 x1 x2 x3 = dotv x0 x1 x2 x3 y0 y1 y2 y3 := by
  unfold dotv
  rw [Int.mul_comm (sat y0), Int.mul_comm (sat y1), Int.mul_comm (sat y2), Int.mul_comm (sat y3)]

theorem mats_ext {m n : Nat → Int} (h : ∀ k, k < 16 → m k = n k) : mats m = mats n := by
  unfold mats
  rw [h 0 (by omega), h 1 (by omega), h 2 (by omega), h 3 (by omega), h 4 (by omega), h 5 (by omega), h 6 (by omega), h 7 (by omega), h 8 (by omega), h 9 (by omega), h 10 (by omega), h 11 (by omega), h 12 (by omega), h 13 (by omega), h 14 (by omega), h 15 (by omega)]

theorem tr_mul (a b : Nat → Int) : mats (tr (mulm a b)) = mats (mulm (tr b) (tr a)) := by
  unfold mats
  congr 1
  have h : ∀ k, k < 16 → tr (mulm a b) k = mulm (tr b) (tr a) k := by
    intro k hk
    have hc : k = 0 ∨ k = 1 ∨ k = 2 ∨ k = 3 ∨ k = 4 ∨ k = 5 ∨ k = 6 ∨ k = 7 ∨ k = 8 ∨ k = 9 ∨ k = 10 ∨ k = 11 ∨ k = 12 ∨ k = 13 ∨ k = 14 ∨ k = 15 := by omega
    rcases hc with rfl | rfl | rfl | rfl | rfl | rfl | rfl | rfl | rfl | rfl | rfl | rfl | rfl | rfl | rfl | rfl
    all_goals exact dotv_comm' _ _ _ _ _ _ _ _
  rw [h 0 (by omega), h 1 (by omega), h 2 (by omega), h 3 (by omega), h 4 (by omega), h 5 (by omega), h 6 (by omega), h 7 (by omega), h 8 (by omega), h 9 (by omega), h 10 (by omega), h 11 (by omega), h 12 (by omega), h 13 (by omega), h 14 (by omega), h 15 (by omega)]

set_option maxRecDepth 100000 in
set_option maxHeartbeats 4000000 in
theorem basics_walk (x y z : Int) (w : World) :
    Calls Try.prog 5 #[.int .i64 x, .int .i64 y, .int .i64 z] w fun e w' => e = .returned (.bool true) ∧ Below w.heap.size w w' := by
  have BB : Below w.heap.size w w := Below.refl _ _
  have EQ := meq
  have GU := mguard
  go_enter Try.func5, Try.ntmps5
  go_wp2_with (first | (go_at_call 23; refine (identity_b _).mono ?_; rintro _ _ ⟨rfl, B⟩; replace BB := bon BB B) | (go_at_call 24; refine (ridentity_b _).mono ?_; rintro _ _ ⟨rfl, B⟩; replace BB := bon BB B) | (go_at_call 25; refine (translate_b _ _ _ _).mono ?_; rintro _ _ ⟨rfl, B⟩; replace BB := bon BB B) | (go_at_call 26; refine (rtranslate_b _ _ _ _).mono ?_; rintro _ _ ⟨rfl, B⟩; replace BB := bon BB B) | (go_at_call 27; refine (scale_b _ _ _ _).mono ?_; rintro _ _ ⟨rfl, B⟩; replace BB := bon BB B) | (go_at_call 28; refine (rscale_b _ _ _ _).mono ?_; rintro _ _ ⟨rfl, B⟩; replace BB := bon BB B) | (go_at_call 18; refine (example_b _).mono ?_; rintro _ _ ⟨rfl, B⟩; replace BB := bon BB B))
  go_ret
  exact ⟨rfl, BB⟩

theorem argsAB (w : World) (a : Nat → Int) (b : Nat → Int) (x0 x1 x2 x3 : Int) (t u : TypeId) :
    Below w.heap.size w (((w.alloc (.cells (mats a) t)).alloc (.cells (mats b) t)).alloc (.cells #[.int .i64 x0, .int .i64 x1, .int .i64 x2, .int .i64 x3] u)) ∧
    (∀ i, i < 16 → (((w.alloc (.cells (mats a) t)).alloc (.cells (mats b) t)).alloc (.cells #[.int .i64 x0, .int .i64 x1, .int .i64 x2, .int .i64 x3] u)).cell? ⟨w.heap.size, i, none⟩ = some (.int .i64 (a i))) ∧
    (∀ i, i < 16 → (((w.alloc (.cells (mats a) t)).alloc (.cells (mats b) t)).alloc (.cells #[.int .i64 x0, .int .i64 x1, .int .i64 x2, .int .i64 x3] u)).cell? ⟨w.heap.size + 1, i, none⟩ = some (.int .i64 (b i))) ∧
    (((w.alloc (.cells (mats a) t)).alloc (.cells (mats b) t)).alloc (.cells #[.int .i64 x0, .int .i64 x1, .int .i64 x2, .int .i64 x3] u)).cell? ⟨w.heap.size + 2, 0, none⟩ = some (.int .i64 x0) ∧
    (((w.alloc (.cells (mats a) t)).alloc (.cells (mats b) t)).alloc (.cells #[.int .i64 x0, .int .i64 x1, .int .i64 x2, .int .i64 x3] u)).cell? ⟨w.heap.size + 2, 1, none⟩ = some (.int .i64 x1) ∧
    (((w.alloc (.cells (mats a) t)).alloc (.cells (mats b) t)).alloc (.cells #[.int .i64 x0, .int .i64 x1, .int .i64 x2, .int .i64 x3] u)).cell? ⟨w.heap.size + 2, 2, none⟩ = some (.int .i64 x2) ∧
    (((w.alloc (.cells (mats a) t)).alloc (.cells (mats b) t)).alloc (.cells #[.int .i64 x0, .int .i64 x1, .int .i64 x2, .int .i64 x3] u)).cell? ⟨w.heap.size + 2, 3, none⟩ = some (.int .i64 x3) := by
  have BB : Below w.heap.size w w := Below.refl _ _
  have hsz0 : w.heap.size = w.heap.size := by simp
  obtain ⟨B, BB⟩ := box_on BB (mats a) t
  have M0 := mat_box w a t
  have Z0 := mat_boxz w a t
  rw [hsz0] at M0 Z0
  have hsz1 : (w.alloc (.cells (mats a) t)).heap.size = w.heap.size + 1 := by simp
  obtain ⟨B, BB⟩ := box_on BB (mats b) t
  replace Z0 := matz_below B M0 Z0
  replace M0 := mat_below B M0
  have M1 := mat_box (w.alloc (.cells (mats a) t)) b t
  have Z1 := mat_boxz (w.alloc (.cells (mats a) t)) b t
  rw [hsz1] at M1 Z1
  have hsz2 : ((w.alloc (.cells (mats a) t)).alloc (.cells (mats b) t)).heap.size = w.heap.size + 2 := by simp
  obtain ⟨B, BB⟩ := box_on BB #[.int .i64 x0, .int .i64 x1, .int .i64 x2, .int .i64 x3] u
  replace Z0 := matz_below B M0 Z0
  replace Z1 := matz_below B M1 Z1
  replace M0 := mat_below B M0
  replace M1 := mat_below B M1
  have p2_0 := box_cell ((w.alloc (.cells (mats a) t)).alloc (.cells (mats b) t)) #[.int .i64 x0, .int .i64 x1, .int .i64 x2, .int .i64 x3] u 0 _ rfl
  have p2_1 := box_cell ((w.alloc (.cells (mats a) t)).alloc (.cells (mats b) t)) #[.int .i64 x0, .int .i64 x1, .int .i64 x2, .int .i64 x3] u 1 _ rfl
  have p2_2 := box_cell ((w.alloc (.cells (mats a) t)).alloc (.cells (mats b) t)) #[.int .i64 x0, .int .i64 x1, .int .i64 x2, .int .i64 x3] u 2 _ rfl
  have p2_3 := box_cell ((w.alloc (.cells (mats a) t)).alloc (.cells (mats b) t)) #[.int .i64 x0, .int .i64 x1, .int .i64 x2, .int .i64 x3] u 3 _ rfl
  have f2_0 := box_frozen ((w.alloc (.cells (mats a) t)).alloc (.cells (mats b) t)) #[.int .i64 x0, .int .i64 x1, .int .i64 x2, .int .i64 x3] u 0
  have f2_1 := box_frozen ((w.alloc (.cells (mats a) t)).alloc (.cells (mats b) t)) #[.int .i64 x0, .int .i64 x1, .int .i64 x2, .int .i64 x3] u 1
  have f2_2 := box_frozen ((w.alloc (.cells (mats a) t)).alloc (.cells (mats b) t)) #[.int .i64 x0, .int .i64 x1, .int .i64 x2, .int .i64 x3] u 2
  have f2_3 := box_frozen ((w.alloc (.cells (mats a) t)).alloc (.cells (mats b) t)) #[.int .i64 x0, .int .i64 x1, .int .i64 x2, .int .i64 x3] u 3
  rw [hsz2] at p2_0 p2_1 p2_2 p2_3 f2_0 f2_1 f2_2 f2_3
  exact ⟨BB, M0, M1, p2_0, p2_1, p2_2, p2_3⟩

def AS (w : World) (a b : Nat → Int) (x0 x1 x2 x3 : Int) (W : World) : Prop := Below w.heap.size w W ∧ (∀ i, i < 16 → W.cell? ⟨w.heap.size, i, none⟩ = some (.int .i64 (a i))) ∧ (∀ i, i < 16 → W.cell? ⟨w.heap.size + 1, i, none⟩ = some (.int .i64 (b i))) ∧ W.cell? ⟨w.heap.size + 1 + 1, 0, none⟩ = some (.int .i64 x0) ∧ W.cell? ⟨w.heap.size + 1 + 1, 1, none⟩ = some (.int .i64 x1) ∧ W.cell? ⟨w.heap.size + 1 + 1, 2, none⟩ = some (.int .i64 x2) ∧ W.cell? ⟨w.heap.size + 1 + 1, 3, none⟩ = some (.int .i64 x3)

set_option maxRecDepth 100000 in
set_option maxHeartbeats 8000000 in
theorem applies_walk (a b : Nat → Int) (x0 x1 x2 x3 : Int) (w : World) :
    Calls Try.prog 3 #[.agg (mats a), .agg (mats b), .agg #[.int .i64 x0, .int .i64 x1, .int .i64 x2, .int .i64 x3]] w fun e w' => e = .returned (.bool true) ∧ Below w.heap.size w w' := by
  obtain ⟨BB, M0, M1, a0, a1, a2, a3⟩ := argsAB w a b x0 x1 x2 x3 23 25
  have EQ := meq
  have GU := mguard
  go_enter Try.func3, Try.ntmps3
  go_wp2_with fail
  go_loopw [7] (fun i W => (i = .int .i64 (-1) ∨ i = .int .i64 0 ∨ i = .int .i64 1 ∨ i = .int .i64 2 ∨ i = .int .i64 3 ∨ i = .int .i64 4 ∨ i = .int .i64 5) ∧ AS w a b x0 x1 x2 x3 W) (fun i _ => (5 - intOf i).toNat)
  case atStart => exact ⟨.inl rfl, BB, M0, M1, a0, a1, a2, a3⟩
  case round =>
    clear BB M0 M1 a0 a1 a2 a3
    obtain ⟨hk, BB, M0, M1, a0, a1, a2, a3⟩ := hrel
    rcases hk with rfl | rfl | rfl | rfl | rfl | rfl | rfl
    · go_wp2_with fail
      have k_M0 := mat_regrown M0
      have k_M1 := mat_regrown M1
      have k_a0 := cell_regrown a0
      have k_a1 := cell_regrown a1
      have k_a2 := cell_regrown a2
      have k_a3 := cell_regrown a3
      refine wp_region_quiet_below (by kernel_rfl) (by kernel_rfl) ?_
      repeat (first | (go_big_quiet_want; refine quiet_mload _ _ rfl matT (fun W hW => mat_class M0 hW) rfl ?_; go_simp; go_big_quiet_on) | (go_big_quiet_want; refine quiet_mload _ _ rfl matT (fun W hW => mat_class M1 hW) rfl ?_; go_simp; go_big_quiet_on) | go_big_quiet_step ((first | (go_at_call 10; exact Calls.regrown_of (row_b _ _ _)) | (go_at_call 11; exact Calls.regrown_of (rrow_b _ _ _)))) | quiet_step ((first | (go_at_call 10; exact Calls.regrown_of (row_b _ _ _)) | (go_at_call 11; exact Calls.regrown_of (rrow_b _ _ _)))))
      refine wpQuiet_nil ?_
      intro W hw'
      have B := below_regrown' hw'
      clear hw' k_M0 k_M1 k_a0 k_a1 k_a2 k_a3
      replace BB := bon BB B
      replace M0 := mat_below B M0
      replace M1 := mat_below B M1
      replace a0 := cell_below B a0
      replace a1 := cell_below B a1
      replace a2 := cell_below B a2
      replace a3 := cell_below B a3
      go_wp2_with fail
      go_roundw
      case rel => exact ⟨.inr (.inl rfl), BB, M0, M1, a0, a1, a2, a3⟩
      case measure => simp [intOf]
    · go_wp2_with fail
      have k_M0 := mat_regrown M0
      have k_M1 := mat_regrown M1
      have k_a0 := cell_regrown a0
      have k_a1 := cell_regrown a1
      have k_a2 := cell_regrown a2
      have k_a3 := cell_regrown a3
      refine wp_region_quiet_below (by kernel_rfl) (by kernel_rfl) ?_
      repeat (first | (go_big_quiet_want; refine quiet_mload _ _ rfl matT (fun W hW => mat_class M0 hW) rfl ?_; go_simp; go_big_quiet_on) | (go_big_quiet_want; refine quiet_mload _ _ rfl matT (fun W hW => mat_class M1 hW) rfl ?_; go_simp; go_big_quiet_on) | go_big_quiet_step ((first | (go_at_call 10; exact Calls.regrown_of (row_b _ _ _)) | (go_at_call 11; exact Calls.regrown_of (rrow_b _ _ _)))) | quiet_step ((first | (go_at_call 10; exact Calls.regrown_of (row_b _ _ _)) | (go_at_call 11; exact Calls.regrown_of (rrow_b _ _ _)))))
      refine wpQuiet_nil ?_
      intro W hw'
      have B := below_regrown' hw'
      clear hw' k_M0 k_M1 k_a0 k_a1 k_a2 k_a3
      replace BB := bon BB B
      replace M0 := mat_below B M0
      replace M1 := mat_below B M1
      replace a0 := cell_below B a0
      replace a1 := cell_below B a1
      replace a2 := cell_below B a2
      replace a3 := cell_below B a3
      go_wp2_with fail
      go_roundw
      case rel => exact ⟨.inr (.inr (.inl rfl)), BB, M0, M1, a0, a1, a2, a3⟩
      case measure => simp [intOf]
    · go_wp2_with fail
      have k_M0 := mat_regrown M0
      have k_M1 := mat_regrown M1
      have k_a0 := cell_regrown a0
      have k_a1 := cell_regrown a1
      have k_a2 := cell_regrown a2
      have k_a3 := cell_regrown a3
      refine wp_region_quiet_below (by kernel_rfl) (by kernel_rfl) ?_
      repeat (first | (go_big_quiet_want; refine quiet_mload _ _ rfl matT (fun W hW => mat_class M0 hW) rfl ?_; go_simp; go_big_quiet_on) | (go_big_quiet_want; refine quiet_mload _ _ rfl matT (fun W hW => mat_class M1 hW) rfl ?_; go_simp; go_big_quiet_on) | go_big_quiet_step ((first | (go_at_call 10; exact Calls.regrown_of (row_b _ _ _)) | (go_at_call 11; exact Calls.regrown_of (rrow_b _ _ _)))) | quiet_step ((first | (go_at_call 10; exact Calls.regrown_of (row_b _ _ _)) | (go_at_call 11; exact Calls.regrown_of (rrow_b _ _ _)))))
      refine wpQuiet_nil ?_
      intro W hw'
      have B := below_regrown' hw'
      clear hw' k_M0 k_M1 k_a0 k_a1 k_a2 k_a3
      replace BB := bon BB B
      replace M0 := mat_below B M0
      replace M1 := mat_below B M1
      replace a0 := cell_below B a0
      replace a1 := cell_below B a1
      replace a2 := cell_below B a2
      replace a3 := cell_below B a3
      go_wp2_with fail
      go_roundw
      case rel => exact ⟨.inr (.inr (.inr (.inl rfl))), BB, M0, M1, a0, a1, a2, a3⟩
      case measure => simp [intOf]
    · go_wp2_with fail
      have k_M0 := mat_regrown M0
      have k_M1 := mat_regrown M1
      have k_a0 := cell_regrown a0
      have k_a1 := cell_regrown a1
      have k_a2 := cell_regrown a2
      have k_a3 := cell_regrown a3
      refine wp_region_quiet_below (by kernel_rfl) (by kernel_rfl) ?_
      repeat (first | (go_big_quiet_want; refine quiet_mload _ _ rfl matT (fun W hW => mat_class M0 hW) rfl ?_; go_simp; go_big_quiet_on) | (go_big_quiet_want; refine quiet_mload _ _ rfl matT (fun W hW => mat_class M1 hW) rfl ?_; go_simp; go_big_quiet_on) | go_big_quiet_step ((first | (go_at_call 10; exact Calls.regrown_of (row_b _ _ _)) | (go_at_call 11; exact Calls.regrown_of (rrow_b _ _ _)))) | quiet_step ((first | (go_at_call 10; exact Calls.regrown_of (row_b _ _ _)) | (go_at_call 11; exact Calls.regrown_of (rrow_b _ _ _)))))
      refine wpQuiet_nil ?_
      intro W hw'
      have B := below_regrown' hw'
      clear hw' k_M0 k_M1 k_a0 k_a1 k_a2 k_a3
      replace BB := bon BB B
      replace M0 := mat_below B M0
      replace M1 := mat_below B M1
      replace a0 := cell_below B a0
      replace a1 := cell_below B a1
      replace a2 := cell_below B a2
      replace a3 := cell_below B a3
      go_wp2_with fail
      go_roundw
      case rel => exact ⟨.inr (.inr (.inr (.inr (.inl rfl)))), BB, M0, M1, a0, a1, a2, a3⟩
      case measure => simp [intOf]
    · go_wp2_with fail
      have k_M0 := mat_regrown M0
      have k_M1 := mat_regrown M1
      have k_a0 := cell_regrown a0
      have k_a1 := cell_regrown a1
      have k_a2 := cell_regrown a2
      have k_a3 := cell_regrown a3
      refine wp_region_quiet_below (by kernel_rfl) (by kernel_rfl) ?_
      repeat (first | (go_big_quiet_want; refine quiet_mload _ _ rfl matT (fun W hW => mat_class M0 hW) rfl ?_; go_simp; go_big_quiet_on) | (go_big_quiet_want; refine quiet_mload _ _ rfl matT (fun W hW => mat_class M1 hW) rfl ?_; go_simp; go_big_quiet_on) | go_big_quiet_step ((first | (go_at_call 10; exact Calls.regrown_of (row_b _ _ _)) | (go_at_call 11; exact Calls.regrown_of (rrow_b _ _ _)))) | quiet_step ((first | (go_at_call 10; exact Calls.regrown_of (row_b _ _ _)) | (go_at_call 11; exact Calls.regrown_of (rrow_b _ _ _)))))
      refine wpQuiet_nil ?_
      intro W hw'
      have B := below_regrown' hw'
      clear hw' k_M0 k_M1 k_a0 k_a1 k_a2 k_a3
      replace BB := bon BB B
      replace M0 := mat_below B M0
      replace M1 := mat_below B M1
      replace a0 := cell_below B a0
      replace a1 := cell_below B a1
      replace a2 := cell_below B a2
      replace a3 := cell_below B a3
      go_wp2_with fail
      go_roundw
      case rel => exact ⟨.inr (.inr (.inr (.inr (.inr (.inl rfl))))), BB, M0, M1, a0, a1, a2, a3⟩
      case measure => simp [intOf]
    · go_wp2_with fail
      have k_M0 := mat_regrown M0
      have k_M1 := mat_regrown M1
      have k_a0 := cell_regrown a0
      have k_a1 := cell_regrown a1
      have k_a2 := cell_regrown a2
      have k_a3 := cell_regrown a3
      refine wp_region_quiet_below (by kernel_rfl) (by kernel_rfl) ?_
      repeat (first | (go_big_quiet_want; refine quiet_mload _ _ rfl matT (fun W hW => mat_class M0 hW) rfl ?_; go_simp; go_big_quiet_on) | (go_big_quiet_want; refine quiet_mload _ _ rfl matT (fun W hW => mat_class M1 hW) rfl ?_; go_simp; go_big_quiet_on) | go_big_quiet_step ((first | (go_at_call 10; exact Calls.regrown_of (row_b _ _ _)) | (go_at_call 11; exact Calls.regrown_of (rrow_b _ _ _)))) | quiet_step ((first | (go_at_call 10; exact Calls.regrown_of (row_b _ _ _)) | (go_at_call 11; exact Calls.regrown_of (rrow_b _ _ _)))))
      refine wpQuiet_nil ?_
      intro W hw'
      have B := below_regrown' hw'
      clear hw' k_M0 k_M1 k_a0 k_a1 k_a2 k_a3
      replace BB := bon BB B
      replace M0 := mat_below B M0
      replace M1 := mat_below B M1
      replace a0 := cell_below B a0
      replace a1 := cell_below B a1
      replace a2 := cell_below B a2
      replace a3 := cell_below B a3
      go_wp2_with fail
      go_roundw
      case rel => exact ⟨.inr (.inr (.inr (.inr (.inr (.inr rfl))))), BB, M0, M1, a0, a1, a2, a3⟩
      case measure => simp [intOf]
    · go_wp2_with fail
      have k_M0 := mat_regrown M0
      have k_M1 := mat_regrown M1
      have k_a0 := cell_regrown a0
      have k_a1 := cell_regrown a1
      have k_a2 := cell_regrown a2
      have k_a3 := cell_regrown a3
      refine wp_region_quiet_below (by kernel_rfl) (by kernel_rfl) ?_
      repeat (first | (go_big_quiet_want; refine quiet_mload _ _ rfl matT (fun W hW => mat_class M0 hW) rfl ?_; go_simp; go_big_quiet_on) | (go_big_quiet_want; refine quiet_mload _ _ rfl matT (fun W hW => mat_class M1 hW) rfl ?_; go_simp; go_big_quiet_on) | go_big_quiet_step ((first | (go_at_call 12; exact Calls.regrown_of (apply_b _ _ _ _ _ _)) | (go_at_call 13; exact Calls.regrown_of (rapply_b _ _ _ _ _ _)) | (go_at_call 14; exact Calls.regrown_of (mmul_b _ _ _)) | (go_at_call 15; exact Calls.regrown_of (rmmul_b _ _ _)) | (go_at_call 16; exact Calls.regrown_of (transpose_b _ _)) | (go_at_call 17; exact Calls.regrown_of (rtranspose_b _ _)) | (go_at_call 10; exact Calls.regrown_of (row_b _ _ _)) | (go_at_call 11; exact Calls.regrown_of (rrow_b _ _ _)) | (go_at_call 18; exact Calls.regrown_of (example_b _)))) | quiet_step ((first | (go_at_call 12; exact Calls.regrown_of (apply_b _ _ _ _ _ _)) | (go_at_call 13; exact Calls.regrown_of (rapply_b _ _ _ _ _ _)) | (go_at_call 14; exact Calls.regrown_of (mmul_b _ _ _)) | (go_at_call 15; exact Calls.regrown_of (rmmul_b _ _ _)) | (go_at_call 16; exact Calls.regrown_of (transpose_b _ _)) | (go_at_call 17; exact Calls.regrown_of (rtranspose_b _ _)) | (go_at_call 10; exact Calls.regrown_of (row_b _ _ _)) | (go_at_call 11; exact Calls.regrown_of (rrow_b _ _ _)) | (go_at_call 18; exact Calls.regrown_of (example_b _)))))
      refine wpQuiet_nil ?_
      intro W hw'
      have B := below_regrown' hw'
      clear hw' k_M0 k_M1 k_a0 k_a1 k_a2 k_a3
      replace BB := bon BB B
      replace M0 := mat_below B M0
      replace M1 := mat_below B M1
      replace a0 := cell_below B a0
      replace a1 := cell_below B a1
      replace a2 := cell_below B a2
      replace a3 := cell_below B a3
      go_wp2_with fail
      go_ret
      exact ⟨rfl, BB⟩

def HS (w : World) (a b : Nat → Int) (x0 x1 x2 x3 : Int) (s : Nat) (W : World) : Prop := Below w.heap.size w W ∧ (∀ i, i < 16 → W.cell? ⟨w.heap.size, i, none⟩ = some (.int .i64 (a i))) ∧ (∀ i, i < 16 → W.cell? ⟨w.heap.size + 1, i, none⟩ = some (.int .i64 (b i))) ∧ (∀ i, i < 16 → W.cell? ⟨s, i, none⟩ = some (.int .i64 ((tr a) i))) ∧ W.cell? ⟨w.heap.size + 1 + 1, 0, none⟩ = some (.int .i64 x0) ∧ W.cell? ⟨w.heap.size + 1 + 1, 1, none⟩ = some (.int .i64 x1) ∧ W.cell? ⟨w.heap.size + 1 + 1, 2, none⟩ = some (.int .i64 x2) ∧ W.cell? ⟨w.heap.size + 1 + 1, 3, none⟩ = some (.int .i64 x3)

set_option maxRecDepth 100000 in
set_option maxHeartbeats 8000000 in
theorem transposes_walk (a b : Nat → Int) (x0 x1 x2 x3 : Int) (w : World) :
    Calls Try.prog 7 #[.agg (mats a), .agg (mats b), .agg #[.int .i64 x0, .int .i64 x1, .int .i64 x2, .int .i64 x3]] w fun e w' => e = .returned (.bool true) ∧ Below w.heap.size w w' := by
  obtain ⟨BB, M0, M1, a0, a1, a2, a3⟩ := argsAB w a b x0 x1 x2 x3 23 25
  have EQ := meq
  have GU := mguard
  go_enter Try.func7, Try.ntmps7
  go_wp2_with (first | (first | (refine wpList_mload rfl _ _ rfl matT M0 rfl ?_; go_simp) | (refine wpList_mload rfl _ _ rfl matT M1 rfl ?_; go_simp)) | (go_at_call 16; refine (transpose_b _ _).mono ?_; rintro _ W1 ⟨rfl, B⟩; (replace BB := bon BB B; replace M0 := mat_below B M0; replace M1 := mat_below B M1; replace a0 := cell_below B a0; replace a1 := cell_below B a1; replace a2 := cell_below B a2; replace a3 := cell_below B a3); clear B) | (refine wpList_mfill rfl _ _ _ rfl (tr a) matT rfl rfl ?_; go_simp))
  obtain ⟨B, BB⟩ := box_on BB ((mats (tr a))) 23
  have M5 := mat_box W1 (tr a) 23
  replace M0 := mat_below B M0
  replace M1 := mat_below B M1
  replace a0 := cell_below B a0
  replace a1 := cell_below B a1
  replace a2 := cell_below B a2
  replace a3 := cell_below B a3
  refine letter (S := HS w a b x0 x1 x2 x3 W1.heap.size) ?_ ⟨BB, M0, M1, M5, a0, a1, a2, a3⟩
  clear BB M0 M1 M5 a0 a1 a2 a3 B
  intro W HT
  replace HT := Lib.hid HT
  generalize W1.heap.size = sb at *
  go_loopw [8] (fun i W => (i = .int .i64 0 ∨ i = .int .i64 1 ∨ i = .int .i64 2 ∨ i = .int .i64 3 ∨ i = .int .i64 4) ∧ HS w a b x0 x1 x2 x3 sb W) (fun i _ => (4 - intOf i).toNat)
  case atStart => exact ⟨.inl rfl, HT.out⟩
  case round =>
    clear HT
    obtain ⟨hk, BB, M0, M1, M5, a0, a1, a2, a3⟩ := hrel
    rcases hk with rfl | rfl | rfl | rfl | rfl
    · have R0 : rowv (tr a) 0 0 = a 0 := rfl
      have R1 : rowv (tr a) 0 1 = a 4 := rfl
      have R2 : rowv (tr a) 0 2 = a 8 := rfl
      have R3 : rowv (tr a) 0 3 = a 12 := rfl
      go_wp2_with fail
      have k_M0 := mat_regrown M0
      have k_M1 := mat_regrown M1
      have k_M5 := mat_regrown M5
      have k_a0 := cell_regrown a0
      have k_a1 := cell_regrown a1
      have k_a2 := cell_regrown a2
      have k_a3 := cell_regrown a3
      refine wp_region_quiet_below (by kernel_rfl) (by kernel_rfl) ?_
      repeat (first | (go_big_quiet_want; refine quiet_mload _ _ rfl matT (fun W hW => mat_class M0 hW) rfl ?_; go_simp; go_big_quiet_on) | (go_big_quiet_want; refine quiet_mload _ _ rfl matT (fun W hW => mat_class M1 hW) rfl ?_; go_simp; go_big_quiet_on) | (go_big_quiet_want; refine quiet_mload _ _ rfl matT (fun W hW => mat_class M5 hW) rfl ?_; go_simp; go_big_quiet_on) | go_big_quiet_step ((first | (go_at_call 10; exact Calls.regrown_of (row_b _ _ _)))) | quiet_step ((first | (go_at_call 10; exact Calls.regrown_of (row_b _ _ _)))))
      refine wpQuiet_nil ?_
      intro W hw'
      have B := below_regrown' hw'
      clear hw' k_M0 k_M1 k_M5 k_a0 k_a1 k_a2 k_a3
      replace BB := bon BB B
      replace M0 := mat_below B M0
      replace M1 := mat_below B M1
      replace M5 := mat_below B M5
      replace a0 := cell_below B a0
      replace a1 := cell_below B a1
      replace a2 := cell_below B a2
      replace a3 := cell_below B a3
      go_wp2_with fail
      go_roundw
      case rel => exact ⟨.inr (.inl rfl), BB, M0, M1, M5, a0, a1, a2, a3⟩
      case measure => simp [intOf]
    · have R0 : rowv (tr a) 1 0 = a 1 := rfl
      have R1 : rowv (tr a) 1 1 = a 5 := rfl
      have R2 : rowv (tr a) 1 2 = a 9 := rfl
      have R3 : rowv (tr a) 1 3 = a 13 := rfl
      go_wp2_with fail
      have k_M0 := mat_regrown M0
      have k_M1 := mat_regrown M1
      have k_M5 := mat_regrown M5
      have k_a0 := cell_regrown a0
      have k_a1 := cell_regrown a1
      have k_a2 := cell_regrown a2
      have k_a3 := cell_regrown a3
      refine wp_region_quiet_below (by kernel_rfl) (by kernel_rfl) ?_
      repeat (first | (go_big_quiet_want; refine quiet_mload _ _ rfl matT (fun W hW => mat_class M0 hW) rfl ?_; go_simp; go_big_quiet_on) | (go_big_quiet_want; refine quiet_mload _ _ rfl matT (fun W hW => mat_class M1 hW) rfl ?_; go_simp; go_big_quiet_on) | (go_big_quiet_want; refine quiet_mload _ _ rfl matT (fun W hW => mat_class M5 hW) rfl ?_; go_simp; go_big_quiet_on) | go_big_quiet_step ((first | (go_at_call 10; exact Calls.regrown_of (row_b _ _ _)))) | quiet_step ((first | (go_at_call 10; exact Calls.regrown_of (row_b _ _ _)))))
      refine wpQuiet_nil ?_
      intro W hw'
      have B := below_regrown' hw'
      clear hw' k_M0 k_M1 k_M5 k_a0 k_a1 k_a2 k_a3
      replace BB := bon BB B
      replace M0 := mat_below B M0
      replace M1 := mat_below B M1
      replace M5 := mat_below B M5
      replace a0 := cell_below B a0
      replace a1 := cell_below B a1
      replace a2 := cell_below B a2
      replace a3 := cell_below B a3
      go_wp2_with fail
      go_roundw
      case rel => exact ⟨.inr (.inr (.inl rfl)), BB, M0, M1, M5, a0, a1, a2, a3⟩
      case measure => simp [intOf]
    · have R0 : rowv (tr a) 2 0 = a 2 := rfl
      have R1 : rowv (tr a) 2 1 = a 6 := rfl
      have R2 : rowv (tr a) 2 2 = a 10 := rfl
      have R3 : rowv (tr a) 2 3 = a 14 := rfl
      go_wp2_with fail
      have k_M0 := mat_regrown M0
      have k_M1 := mat_regrown M1
      have k_M5 := mat_regrown M5
      have k_a0 := cell_regrown a0
      have k_a1 := cell_regrown a1
      have k_a2 := cell_regrown a2
      have k_a3 := cell_regrown a3
      refine wp_region_quiet_below (by kernel_rfl) (by kernel_rfl) ?_
      repeat (first | (go_big_quiet_want; refine quiet_mload _ _ rfl matT (fun W hW => mat_class M0 hW) rfl ?_; go_simp; go_big_quiet_on) | (go_big_quiet_want; refine quiet_mload _ _ rfl matT (fun W hW => mat_class M1 hW) rfl ?_; go_simp; go_big_quiet_on) | (go_big_quiet_want; refine quiet_mload _ _ rfl matT (fun W hW => mat_class M5 hW) rfl ?_; go_simp; go_big_quiet_on) | go_big_quiet_step ((first | (go_at_call 10; exact Calls.regrown_of (row_b _ _ _)))) | quiet_step ((first | (go_at_call 10; exact Calls.regrown_of (row_b _ _ _)))))
      refine wpQuiet_nil ?_
      intro W hw'
      have B := below_regrown' hw'
      clear hw' k_M0 k_M1 k_M5 k_a0 k_a1 k_a2 k_a3
      replace BB := bon BB B
      replace M0 := mat_below B M0
      replace M1 := mat_below B M1
      replace M5 := mat_below B M5
      replace a0 := cell_below B a0
      replace a1 := cell_below B a1
      replace a2 := cell_below B a2
      replace a3 := cell_below B a3
      go_wp2_with fail
      go_roundw
      case rel => exact ⟨.inr (.inr (.inr (.inl rfl))), BB, M0, M1, M5, a0, a1, a2, a3⟩
      case measure => simp [intOf]
    · have R0 : rowv (tr a) 3 0 = a 3 := rfl
      have R1 : rowv (tr a) 3 1 = a 7 := rfl
      have R2 : rowv (tr a) 3 2 = a 11 := rfl
      have R3 : rowv (tr a) 3 3 = a 15 := rfl
      go_wp2_with fail
      have k_M0 := mat_regrown M0
      have k_M1 := mat_regrown M1
      have k_M5 := mat_regrown M5
      have k_a0 := cell_regrown a0
      have k_a1 := cell_regrown a1
      have k_a2 := cell_regrown a2
      have k_a3 := cell_regrown a3
      refine wp_region_quiet_below (by kernel_rfl) (by kernel_rfl) ?_
      repeat (first | (go_big_quiet_want; refine quiet_mload _ _ rfl matT (fun W hW => mat_class M0 hW) rfl ?_; go_simp; go_big_quiet_on) | (go_big_quiet_want; refine quiet_mload _ _ rfl matT (fun W hW => mat_class M1 hW) rfl ?_; go_simp; go_big_quiet_on) | (go_big_quiet_want; refine quiet_mload _ _ rfl matT (fun W hW => mat_class M5 hW) rfl ?_; go_simp; go_big_quiet_on) | go_big_quiet_step ((first | (go_at_call 10; exact Calls.regrown_of (row_b _ _ _)))) | quiet_step ((first | (go_at_call 10; exact Calls.regrown_of (row_b _ _ _)))))
      refine wpQuiet_nil ?_
      intro W hw'
      have B := below_regrown' hw'
      clear hw' k_M0 k_M1 k_M5 k_a0 k_a1 k_a2 k_a3
      replace BB := bon BB B
      replace M0 := mat_below B M0
      replace M1 := mat_below B M1
      replace M5 := mat_below B M5
      replace a0 := cell_below B a0
      replace a1 := cell_below B a1
      replace a2 := cell_below B a2
      replace a3 := cell_below B a3
      go_wp2_with fail
      go_roundw
      case rel => exact ⟨.inr (.inr (.inr (.inr rfl))), BB, M0, M1, M5, a0, a1, a2, a3⟩
      case measure => simp [intOf]
    · have T1 : mats (tr (tr a)) = mats a := rfl
      have T2 := tr_mul a b
      go_wp2_with fail
      have k_M0 := mat_regrown M0
      have k_M1 := mat_regrown M1
      have k_M5 := mat_regrown M5
      have k_a0 := cell_regrown a0
      have k_a1 := cell_regrown a1
      have k_a2 := cell_regrown a2
      have k_a3 := cell_regrown a3
      refine wp_region_quiet_below (by kernel_rfl) (by kernel_rfl) ?_
      repeat (first | (go_big_quiet_want; refine quiet_mload _ _ rfl matT (fun W hW => mat_class M0 hW) rfl ?_; go_simp; go_big_quiet_on) | (go_big_quiet_want; refine quiet_mload _ _ rfl matT (fun W hW => mat_class M1 hW) rfl ?_; go_simp; go_big_quiet_on) | (go_big_quiet_want; refine quiet_mload _ _ rfl matT (fun W hW => mat_class M5 hW) rfl ?_; go_simp; go_big_quiet_on) | go_big_quiet_step ((first | (go_at_call 16; exact Calls.regrown_of (transpose_b _ _)) | (go_at_call 14; exact Calls.regrown_of (mmul_b _ _ _)) | (go_at_call 12; exact Calls.regrown_of (apply_b _ _ _ _ _ _)) | (go_at_call 18; exact Calls.regrown_of (example_b _)))) | quiet_step ((first | (go_at_call 16; exact Calls.regrown_of (transpose_b _ _)) | (go_at_call 14; exact Calls.regrown_of (mmul_b _ _ _)) | (go_at_call 12; exact Calls.regrown_of (apply_b _ _ _ _ _ _)) | (go_at_call 18; exact Calls.regrown_of (example_b _)))))
      refine wpQuiet_nil ?_
      intro W hw'
      have B := below_regrown' hw'
      clear hw' k_M0 k_M1 k_M5 k_a0 k_a1 k_a2 k_a3
      replace BB := bon BB B
      replace M0 := mat_below B M0
      replace M1 := mat_below B M1
      replace M5 := mat_below B M5
      replace a0 := cell_below B a0
      replace a1 := cell_below B a1
      replace a2 := cell_below B a2
      replace a3 := cell_below B a3
      go_wp2_with fail
      go_ret
      exact ⟨rfl, BB⟩

end Go.Proofs.Ytlchecnencbamaa
