/- The example; the walks of stage 15's laws. -/
import Derived.Test.YtfakmeimideoaaaH4
import Derived.Test.YtfakmeimideoaaaH5
import Derived.Test.YtfakmeimideoaaaGrow
namespace Go.Proofs.Ytfakmeimideoaaa
open Go.RowKit Go.Sort Go.ChangeShapes Go.WideShapes
set_option linter.unusedVariables false

theorem rd_lit (W : World) (e : TypeId) (k : IntKind) (l : List Int) (hr : ∀ x ∈ l, k.min ≤ x ∧ x ≤ k.max) :
    Rd (W.alloc (.cells (l.map (Value.int k)).toArray e)) (W.alloc (.cells (l.map (Value.int k)).toArray e)).heap.size k (some ⟨W.heap.size, 0, none⟩) l.length l :=
  ⟨rfl, hr, fun _ => ⟨W.heap.size, 0, rfl, by simp, fun j x hx => by rw [Nat.zero_add]; exact box_cell W _ e j _ (by simp [hx])⟩⟩

theorem uq_ex : uq [7, 3, 7, -1] = ([7, 3], [0, 1, 0, -1]) := by decide

theorem ix_ex0 : idx [5, 255] 2 0 = 5 := by decide

theorem ix_ex1 : idx [5, 255] 2 1 = -1 := by decide

set_option maxRecDepth 100000 in
set_option maxHeartbeats 1000000 in
theorem hexample_b (w : World) : Calls Try.prog 14 #[] w fun e w' => e = .returned (.bool true) ∧ Below w.heap.size w w' := by
  have K1 : Rd (w.alloc (.cells #[.int .i64 7, .int .i64 3, .int .i64 7, .int .i64 (-1)] 3)) (w.alloc (.cells #[.int .i64 7, .int .i64 3, .int .i64 7, .int .i64 (-1)] 3)).heap.size .i64 (some ⟨w.heap.size, 0, none⟩) 4 [7, 3, 7, -1] := rd_lit w 3 .i64 [7, 3, 7, -1] (by decide)
  have BB := box_below w #[.int .i64 7, .int .i64 3, .int .i64 7, .int .i64 (-1)] 3
  have cu := fun A c W R => unique_b A 4 c [7, 3, 7, -1] W R (by omega)
  have c0 := fun A c W R => index_b A 2 c [5, 255] 2 0 W R (by omega)
  have c1 := fun A c W R => index_b A 2 c [5, 255] 2 1 W R (by omega)
  rw [uq_ex] at cu
  rw [ix_ex0] at c0
  rw [ix_ex1] at c1
  have CU := Lib.hid cu
  have C0 := Lib.hid c0
  have C1 := Lib.hid c1
  have L5 : Hid (∀ W : World, Rd (W.alloc (.cells #[.int .u8 5, .int .u8 255] 5)) (W.alloc (.cells #[.int .u8 5, .int .u8 255] 5)).heap.size .u8 (some ⟨W.heap.size, 0, none⟩) 2 [5, 255]) := Lib.hid fun W => rd_lit W 5 .u8 [5, 255] (by decide)
  have L2 : Hid (∀ W : World, Rd (W.alloc (.cells #[.int .i64 7, .int .i64 3] 3)) (W.alloc (.cells #[.int .i64 7, .int .i64 3] 3)).heap.size .i64 (some ⟨W.heap.size, 0, none⟩) 2 [7, 3]) := Lib.hid fun W => rd_lit W 3 .i64 [7, 3] (by decide)
  have L4 : Hid (∀ W : World, Rd (W.alloc (.cells #[.int .i64 0, .int .i64 1, .int .i64 0, .int .i64 (-1)] 3)) (W.alloc (.cells #[.int .i64 0, .int .i64 1, .int .i64 0, .int .i64 (-1)] 3)).heap.size .i64 (some ⟨W.heap.size, 0, none⟩) 4 [0, 1, 0, -1]) := Lib.hid fun W => rd_lit W 3 .i64 [0, 1, 0, -1] (by decide)
  clear cu c0 c1
  go_enter Try.func14, Try.ntmps14
  go_wp2_with (first
    | (go_at_call 23; (with_reducible refine (CU.out _ _ _ K1).mono ?_); rintro _ W1 ⟨A5, n5, d5, A6, n6, d6, rfl, R5, R6, B⟩; dsimp only at R5 R6; replace BB := bon BB B; clear B K1; obtain rfl : n5 = 2 := R5.len.symm; obtain rfl : n6 = 4 := R6.len.symm)
    | (go_at_call 9; (with_reducible refine (C0.out _ _ _ (L5.out _)).mono ?_); rintro _ W2 ⟨rfl, B⟩; replace B := bon (box_below _ _ _) B; replace BB := bon BB B; replace R5 := R5.on B; replace R6 := R6.on B; clear B)
    | (go_at_call 9; (with_reducible refine (C1.out _ _ _ (L5.out _)).mono ?_); rintro _ W2 ⟨rfl, B⟩; replace B := bon (box_below _ _ _) B; replace BB := bon BB B; replace R5 := R5.on B; replace R6 := R6.on B; clear B)
    | (go_at_call 11; (with_reducible refine (lsame_b _ _ _ _ _ _ _ _ _ _ (R5.on (box_below _ _ _)) (L2.out _) (Nat.le_refl _) (Nat.le_refl _) (by omega)).mono ?_); rintro _ W3 ⟨rfl, B⟩; replace B := bon (box_below _ _ _) B; replace BB := bon BB B; replace R6 := R6.on B; clear B R5)
    | (go_at_call 11; (with_reducible refine (lsame_b _ _ _ _ _ _ _ _ _ _ (R6.on (box_below _ _ _)) (L4.out _) (Nat.le_refl _) (Nat.le_refl _) (by omega)).mono ?_); rintro _ W3 ⟨rfl, B⟩; replace B := bon (box_below _ _ _) B; replace BB := bon BB B; clear B R6))
  go_ret
  exact ⟨rfl, BB⟩

theorem ixv_len (l : List Int) (t f m : Int) : (ixv l t f m).length ≤ 1024 := by
  unfold ixv
  split
  · simp
  · rw [ixs_len]
    unfold clampv
    split <;> (try split) <;> omega

set_option maxRecDepth 100000 in
set_option maxHeartbeats 1000000 in
theorem indices_walk (A0 A1 A2 : Option Addr) (n0 c0 n1 c1 n2 c2 : Nat) (l0 : List Int) (l1 : List At) (l2 : List Bf) (t i m v : Int) (w : World) (R0 : Rd w w.heap.size .u8 A0 n0 l0) (R1 : RdA w w.heap.size A1 n1 l1) (R2 : RdB w w.heap.size A2 n2 l2) (hn0 : n0 ≤ 9223372036854775807) (hn1 : n1 ≤ 9223372036854775807) :
    Calls Try.prog 4 #[.agg #[.slice A0 n0 c0, .int .i64 t, .int .i64 i, .int .i64 m, .slice A1 n1 c1, .slice A2 n2 c2, .int .i64 v]] w fun e w' => e = .returned (.bool true) ∧ Below w.heap.size w w' := by
  have BB := box_below w #[.slice A0 n0 c0, .int .i64 t, .int .i64 i, .int .i64 m, .slice A1 n1 c1, .slice A2 n2 c2, .int .i64 v] 27
  have a0 := box_cell w #[.slice A0 n0 c0, .int .i64 t, .int .i64 i, .int .i64 m, .slice A1 n1 c1, .slice A2 n2 c2, .int .i64 v] 27 0 _ rfl
  have a1 := box_cell w #[.slice A0 n0 c0, .int .i64 t, .int .i64 i, .int .i64 m, .slice A1 n1 c1, .slice A2 n2 c2, .int .i64 v] 27 1 _ rfl
  have a2 := box_cell w #[.slice A0 n0 c0, .int .i64 t, .int .i64 i, .int .i64 m, .slice A1 n1 c1, .slice A2 n2 c2, .int .i64 v] 27 2 _ rfl
  have a3 := box_cell w #[.slice A0 n0 c0, .int .i64 t, .int .i64 i, .int .i64 m, .slice A1 n1 c1, .slice A2 n2 c2, .int .i64 v] 27 3 _ rfl
  have a4 := box_cell w #[.slice A0 n0 c0, .int .i64 t, .int .i64 i, .int .i64 m, .slice A1 n1 c1, .slice A2 n2 c2, .int .i64 v] 27 4 _ rfl
  have a5 := box_cell w #[.slice A0 n0 c0, .int .i64 t, .int .i64 i, .int .i64 m, .slice A1 n1 c1, .slice A2 n2 c2, .int .i64 v] 27 5 _ rfl
  have a6 := box_cell w #[.slice A0 n0 c0, .int .i64 t, .int .i64 i, .int .i64 m, .slice A1 n1 c1, .slice A2 n2 c2, .int .i64 v] 27 6 _ rfl
  have K0 := Lib.hid R0
  have K1 := Lib.hid R1
  have K2 := Lib.hid R2
  have C1 := Lib.hid (fun W R => indices_b A0 n0 c0 l0 t i m W R hn0)
  have C2 := Lib.hid (fun W R => rindices_b A0 n0 c0 l0 t i m W R hn0)
  have hl := ixv_len l0 t i m
  obtain ⟨L, hL⟩ : ∃ L, ixv l0 t i m = L := ⟨_, rfl⟩
  rw [hL] at C1 C2 hl
  clear hL R0 R1 R2 a4 a5 a6
  go_enter Try.func4, Try.ntmps4
  go_wp2_with fail
  refine wp_region_grow [0, 1, 2, 3, 4, 5, 6, 7, 9, 10, 11, 12, 13, 14, 15, 16, 8, 17, 18, 19, 20, 21, 22] (by kernel_rfl) (by kernel_rfl) ?_
  intro W B
  replace BB := bon BB B
  replace a0 := cell_below B a0
  replace a1 := cell_below B a1
  replace a2 := cell_below B a2
  replace a3 := cell_below B a3
  clear B
  have k_a0 := cell_regrown a0
  have k_a1 := cell_regrown a1
  have k_a2 := cell_regrown a2
  have k_a3 := cell_regrown a3
  refine grow_read rfl rfl ?_
  (first | go_big_quiet_step (fail) | quiet_step (fail))
  refine wpQuiet_nil ?_
  refine grow_read rfl rfl ?_
  (first | go_big_quiet_step (fail) | quiet_step (fail))
  refine wpQuiet_nil ?_
  refine grow_read rfl rfl ?_
  (first | go_big_quiet_step (fail) | quiet_step (fail))
  refine wpQuiet_nil ?_
  refine grow_read rfl rfl ?_
  (first | go_big_quiet_step (fail) | quiet_step (fail))
  refine wpQuiet_nil ?_
  refine grow_read rfl rfl ?_
  (first | go_big_quiet_step (fail) | quiet_step (fail))
  refine wpQuiet_nil ?_
  refine grow_read rfl rfl ?_
  (first | go_big_quiet_step (fail) | quiet_step (fail))
  refine wpQuiet_nil ?_
  refine grow_read rfl rfl ?_
  (first | go_big_quiet_step (fail) | quiet_step (fail))
  refine wpQuiet_nil ?_
  refine grow_read rfl rfl ?_
  (first | go_big_quiet_step (fail) | quiet_step (fail))
  refine wpQuiet_nil ?_
  refine grow_read rfl rfl ?_
  (first | go_big_quiet_step (fail) | quiet_step (fail))
  refine wpQuiet_nil ?_
  refine grow_read rfl rfl ?_
  (first | go_big_quiet_step (fail) | quiet_step (fail))
  refine wpQuiet_nil ?_
  refine grow_read rfl rfl ?_
  (first | go_big_quiet_step (fail) | quiet_step (fail))
  refine wpQuiet_nil ?_
  refine grow_read rfl rfl ?_
  (first | go_big_quiet_step (fail) | quiet_step (fail))
  refine wpQuiet_nil ?_
  refine grow_read rfl rfl ?_
  (first | go_big_quiet_step (fail) | quiet_step (fail))
  refine wpQuiet_nil ?_
  refine grow_read rfl rfl ?_
  (first | go_big_quiet_step (fail) | quiet_step (fail))
  refine wpQuiet_nil ?_
  refine grow_read rfl rfl ?_
  (first | go_big_quiet_step (fail) | quiet_step (fail))
  refine wpQuiet_nil ?_
  refine grow_read rfl rfl ?_
  (first | go_big_quiet_step (fail) | quiet_step (fail))
  refine wpQuiet_nil ?_
  clear k_a0 k_a1 k_a2 k_a3
  refine grow_call rfl rfl ?_
  go_wp2_with (go_at_call 15; refine (C1.out _ ((K0.out.below BB).more BB.size)).mono ?_; rintro _ _ ⟨A3, n3, d3, rfl, _, R3, B⟩; replace BB := bon BB B; replace a0 := cell_below B a0; replace a1 := cell_below B a1; replace a2 := cell_below B a2; replace a3 := cell_below B a3)
  refine ⟨Grows.of B, ?_⟩
  clear B
  have k_a0 := cell_regrown a0
  have k_a1 := cell_regrown a1
  have k_a2 := cell_regrown a2
  have k_a3 := cell_regrown a3
  clear k_a0 k_a1 k_a2 k_a3
  refine grow_call rfl rfl ?_
  go_wp2_with (go_at_call 16; refine (C2.out _ ((K0.out.below BB).more BB.size)).mono ?_; rintro _ _ ⟨A4, n4, d4, rfl, _, R4, B⟩; replace R3 := R3.on B; replace BB := bon BB B; replace a0 := cell_below B a0; replace a1 := cell_below B a1; replace a2 := cell_below B a2; replace a3 := cell_below B a3)
  refine ⟨Grows.of B, ?_⟩
  clear B
  have k_a0 := cell_regrown a0
  have k_a1 := cell_regrown a1
  have k_a2 := cell_regrown a2
  have k_a3 := cell_regrown a3
  clear k_a0 k_a1 k_a2 k_a3
  refine grow_call rfl rfl ?_
  go_wp2_with (go_at_call 11; refine (lsame_b _ _ _ _ _ _ _ _ _ _ R3 R4 (Nat.le_refl _) (Nat.le_refl _) (by have h1 := R3.len; omega)).mono ?_; rintro _ _ ⟨rfl, B⟩; replace BB := bon BB B; replace a0 := cell_below B a0; replace a1 := cell_below B a1; replace a2 := cell_below B a2; replace a3 := cell_below B a3)
  refine ⟨Grows.of B, ?_⟩
  clear B
  have k_a0 := cell_regrown a0
  have k_a1 := cell_regrown a1
  have k_a2 := cell_regrown a2
  have k_a3 := cell_regrown a3
  refine grow_read rfl rfl ?_
  (first | go_big_quiet_step (fail) | quiet_step (fail))
  refine wpQuiet_nil ?_
  clear k_a0 k_a1 k_a2 k_a3
  refine grow_call rfl rfl ?_
  go_wp2_with (go_at_call 14; refine (hexample_b _).mono ?_; rintro _ _ ⟨rfl, B⟩; replace BB := bon BB B; replace a0 := cell_below B a0; replace a1 := cell_below B a1; replace a2 := cell_below B a2; replace a3 := cell_below B a3)
  refine ⟨Grows.of B, ?_⟩
  clear B
  have k_a0 := cell_regrown a0
  have k_a1 := cell_regrown a1
  have k_a2 := cell_regrown a2
  have k_a3 := cell_regrown a3
  refine grow_read rfl rfl ?_
  (first | go_big_quiet_step (fail) | quiet_step (fail))
  refine wpQuiet_nil ?_
  refine grow_read rfl rfl ?_
  (first | go_big_quiet_step (fail) | quiet_step (fail))
  refine wpQuiet_nil ?_
  clear k_a0 k_a1 k_a2 k_a3
  refine grow_nil ?_
  go_wp2
  go_ret
  exact ⟨rfl, BB⟩

theorem vtx_len' (bs : List Bf) (v : Int) (l : List At) : (if vldb l = true then vtx bs v l else []).length ≤ 32 := by
  split
  · rename_i h
    have g := vldb_iff.1 h
    rw [vtx_len bs v g.2.2]
    exact g.2.1
  · simp

set_option maxRecDepth 100000 in
set_option maxHeartbeats 2000000 in
theorem robust15_walk (A0 A1 A2 : Option Addr) (n0 c0 n1 c1 n2 c2 : Nat) (l0 : List Int) (l1 : List At) (l2 : List Bf) (t i m v : Int) (w : World) (R0 : Rd w w.heap.size .u8 A0 n0 l0) (R1 : RdA w w.heap.size A1 n1 l1) (R2 : RdB w w.heap.size A2 n2 l2) (hn0 : n0 ≤ 9223372036854775807) (hn1 : n1 ≤ 9223372036854775807) :
    Calls Try.prog 3 #[.agg #[.slice A0 n0 c0, .int .i64 t, .int .i64 i, .int .i64 m, .slice A1 n1 c1, .slice A2 n2 c2, .int .i64 v]] w fun e w' => e = .returned (.bool true) ∧ Below w.heap.size w w' := by
  have BB := box_below w #[.slice A0 n0 c0, .int .i64 t, .int .i64 i, .int .i64 m, .slice A1 n1 c1, .slice A2 n2 c2, .int .i64 v] 27
  have a0 := box_cell w #[.slice A0 n0 c0, .int .i64 t, .int .i64 i, .int .i64 m, .slice A1 n1 c1, .slice A2 n2 c2, .int .i64 v] 27 0 _ rfl
  have a1 := box_cell w #[.slice A0 n0 c0, .int .i64 t, .int .i64 i, .int .i64 m, .slice A1 n1 c1, .slice A2 n2 c2, .int .i64 v] 27 1 _ rfl
  have a2 := box_cell w #[.slice A0 n0 c0, .int .i64 t, .int .i64 i, .int .i64 m, .slice A1 n1 c1, .slice A2 n2 c2, .int .i64 v] 27 2 _ rfl
  have a3 := box_cell w #[.slice A0 n0 c0, .int .i64 t, .int .i64 i, .int .i64 m, .slice A1 n1 c1, .slice A2 n2 c2, .int .i64 v] 27 3 _ rfl
  have a4 := box_cell w #[.slice A0 n0 c0, .int .i64 t, .int .i64 i, .int .i64 m, .slice A1 n1 c1, .slice A2 n2 c2, .int .i64 v] 27 4 _ rfl
  have a5 := box_cell w #[.slice A0 n0 c0, .int .i64 t, .int .i64 i, .int .i64 m, .slice A1 n1 c1, .slice A2 n2 c2, .int .i64 v] 27 5 _ rfl
  have a6 := box_cell w #[.slice A0 n0 c0, .int .i64 t, .int .i64 i, .int .i64 m, .slice A1 n1 c1, .slice A2 n2 c2, .int .i64 v] 27 6 _ rfl
  have K0 := Lib.hid R0
  have K1 := Lib.hid R1
  have K2 := Lib.hid R2
  have C1 := Lib.hid (fun W R => index_b A0 n0 c0 l0 t i W R hn0)
  have C2 := Lib.hid (fun W R => rindex_b A0 n0 c0 l0 t i W R hn0)
  have C3 := Lib.hid (fun W R RB => vertex_b A1 A2 n1 c1 n2 c2 l1 l2 v W R RB hn1)
  have C4 := Lib.hid (fun W R RB => rvertex_b A1 A2 n1 c1 n2 c2 l1 l2 v W R RB hn1)
  have hl := vtx_len' l2 v l1
  obtain ⟨L, hL⟩ : ∃ L, (if vldb l1 = true then vtx l2 v l1 else []) = L := ⟨_, rfl⟩
  rw [hL] at C3 C4 hl
  obtain ⟨x, hx⟩ : ∃ x, idx l0 t i = x := ⟨_, rfl⟩
  rw [hx] at C1 C2
  clear hL hx R0 R1 R2 a3
  go_enter Try.func3, Try.ntmps3
  go_wp2_with fail
  refine wp_region_grow [0, 1, 2, 3, 4, 5, 7, 8, 9, 10, 11, 12, 6, 13, 14, 15, 16, 17, 18, 19, 20, 21, 23, 24, 25, 26, 27, 28, 22, 29, 30, 31, 32, 33, 34, 35] (by kernel_rfl) (by kernel_rfl) ?_
  intro W B
  replace BB := bon BB B
  replace a0 := cell_below B a0
  replace a1 := cell_below B a1
  replace a2 := cell_below B a2
  replace a4 := cell_below B a4
  replace a5 := cell_below B a5
  replace a6 := cell_below B a6
  clear B
  have k_a0 := cell_regrown a0
  have k_a1 := cell_regrown a1
  have k_a2 := cell_regrown a2
  have k_a4 := cell_regrown a4
  have k_a5 := cell_regrown a5
  have k_a6 := cell_regrown a6
  refine grow_read rfl rfl ?_
  (first | go_big_quiet_step (fail) | quiet_step (fail))
  refine wpQuiet_nil ?_
  refine grow_read rfl rfl ?_
  (first | go_big_quiet_step (fail) | quiet_step (fail))
  refine wpQuiet_nil ?_
  refine grow_read rfl rfl ?_
  (first | go_big_quiet_step (fail) | quiet_step (fail))
  refine wpQuiet_nil ?_
  refine grow_read rfl rfl ?_
  (first | go_big_quiet_step (fail) | quiet_step (fail))
  refine wpQuiet_nil ?_
  refine grow_read rfl rfl ?_
  (first | go_big_quiet_step (fail) | quiet_step (fail))
  refine wpQuiet_nil ?_
  refine grow_read rfl rfl ?_
  (first | go_big_quiet_step (fail) | quiet_step (fail))
  refine wpQuiet_nil ?_
  refine grow_read rfl rfl ?_
  (first | go_big_quiet_step (fail) | quiet_step (fail))
  refine wpQuiet_nil ?_
  refine grow_read rfl rfl ?_
  (first | go_big_quiet_step (fail) | quiet_step (fail))
  refine wpQuiet_nil ?_
  refine grow_read rfl rfl ?_
  (first | go_big_quiet_step (fail) | quiet_step (fail))
  refine wpQuiet_nil ?_
  refine grow_read rfl rfl ?_
  (first | go_big_quiet_step (fail) | quiet_step (fail))
  refine wpQuiet_nil ?_
  refine grow_read rfl rfl ?_
  (first | go_big_quiet_step (fail) | quiet_step (fail))
  refine wpQuiet_nil ?_
  refine grow_read rfl rfl ?_
  (first | go_big_quiet_step (fail) | quiet_step (fail))
  refine wpQuiet_nil ?_
  clear k_a0 k_a1 k_a2 k_a4 k_a5 k_a6
  refine grow_call rfl rfl ?_
  go_wp2_with (go_at_call 9; refine (C1.out _ ((K0.out.below BB).more BB.size)).mono ?_; rintro _ _ ⟨rfl, B⟩; replace BB := bon BB B; replace a0 := cell_below B a0; replace a1 := cell_below B a1; replace a2 := cell_below B a2; replace a4 := cell_below B a4; replace a5 := cell_below B a5; replace a6 := cell_below B a6)
  refine ⟨Grows.of B, ?_⟩
  clear B
  have k_a0 := cell_regrown a0
  have k_a1 := cell_regrown a1
  have k_a2 := cell_regrown a2
  have k_a4 := cell_regrown a4
  have k_a5 := cell_regrown a5
  have k_a6 := cell_regrown a6
  clear k_a0 k_a1 k_a2 k_a4 k_a5 k_a6
  refine grow_call rfl rfl ?_
  go_wp2_with (go_at_call 10; refine (C2.out _ ((K0.out.below BB).more BB.size)).mono ?_; rintro _ _ ⟨rfl, B⟩; replace BB := bon BB B; replace a0 := cell_below B a0; replace a1 := cell_below B a1; replace a2 := cell_below B a2; replace a4 := cell_below B a4; replace a5 := cell_below B a5; replace a6 := cell_below B a6)
  refine ⟨Grows.of B, ?_⟩
  clear B
  have k_a0 := cell_regrown a0
  have k_a1 := cell_regrown a1
  have k_a2 := cell_regrown a2
  have k_a4 := cell_regrown a4
  have k_a5 := cell_regrown a5
  have k_a6 := cell_regrown a6
  refine grow_read rfl rfl ?_
  (first | go_big_quiet_step (fail) | quiet_step (fail))
  refine wpQuiet_nil ?_
  refine grow_read rfl rfl ?_
  (first | go_big_quiet_step (fail) | quiet_step (fail))
  refine wpQuiet_nil ?_
  refine grow_read rfl rfl ?_
  (first | go_big_quiet_step (fail) | quiet_step (fail))
  refine wpQuiet_nil ?_
  refine grow_read rfl rfl ?_
  (first | go_big_quiet_step (fail) | quiet_step (fail))
  refine wpQuiet_nil ?_
  refine grow_read rfl rfl ?_
  (first | go_big_quiet_step (fail) | quiet_step (fail))
  refine wpQuiet_nil ?_
  refine grow_read rfl rfl ?_
  (first | go_big_quiet_step (fail) | quiet_step (fail))
  refine wpQuiet_nil ?_
  refine grow_read rfl rfl ?_
  (first | go_big_quiet_step (fail) | quiet_step (fail))
  refine wpQuiet_nil ?_
  refine grow_read rfl rfl ?_
  (first | go_big_quiet_step (fail) | quiet_step (fail))
  refine wpQuiet_nil ?_
  refine grow_read rfl rfl ?_
  (first | go_big_quiet_step (fail) | quiet_step (fail))
  refine wpQuiet_nil ?_
  refine grow_read rfl rfl ?_
  (first | go_big_quiet_step (fail) | quiet_step (fail))
  refine wpQuiet_nil ?_
  refine grow_read rfl rfl ?_
  (first | go_big_quiet_step (fail) | quiet_step (fail))
  refine wpQuiet_nil ?_
  refine grow_read rfl rfl ?_
  (first | go_big_quiet_step (fail) | quiet_step (fail))
  refine wpQuiet_nil ?_
  refine grow_read rfl rfl ?_
  (first | go_big_quiet_step (fail) | quiet_step (fail))
  refine wpQuiet_nil ?_
  refine grow_read rfl rfl ?_
  (first | go_big_quiet_step (fail) | quiet_step (fail))
  refine wpQuiet_nil ?_
  clear k_a0 k_a1 k_a2 k_a4 k_a5 k_a6
  refine grow_call rfl rfl ?_
  go_wp2_with (go_at_call 12; refine (C3.out _ ((K1.out.below BB).more BB.size) ((K2.out.below BB).more BB.size)).mono ?_; rintro _ _ ⟨A3, n3, d3, rfl, _, R3, B⟩; replace BB := bon BB B; replace a0 := cell_below B a0; replace a1 := cell_below B a1; replace a2 := cell_below B a2; replace a4 := cell_below B a4; replace a5 := cell_below B a5; replace a6 := cell_below B a6)
  refine ⟨Grows.of B, ?_⟩
  clear B
  have k_a0 := cell_regrown a0
  have k_a1 := cell_regrown a1
  have k_a2 := cell_regrown a2
  have k_a4 := cell_regrown a4
  have k_a5 := cell_regrown a5
  have k_a6 := cell_regrown a6
  clear k_a0 k_a1 k_a2 k_a4 k_a5 k_a6
  refine grow_call rfl rfl ?_
  go_wp2_with (go_at_call 13; refine (C4.out _ ((K1.out.below BB).more BB.size) ((K2.out.below BB).more BB.size)).mono ?_; rintro _ _ ⟨A4, n4, d4, rfl, _, R4, B⟩; replace R3 := R3.on B; replace BB := bon BB B; replace a0 := cell_below B a0; replace a1 := cell_below B a1; replace a2 := cell_below B a2; replace a4 := cell_below B a4; replace a5 := cell_below B a5; replace a6 := cell_below B a6)
  refine ⟨Grows.of B, ?_⟩
  clear B
  have k_a0 := cell_regrown a0
  have k_a1 := cell_regrown a1
  have k_a2 := cell_regrown a2
  have k_a4 := cell_regrown a4
  have k_a5 := cell_regrown a5
  have k_a6 := cell_regrown a6
  clear k_a0 k_a1 k_a2 k_a4 k_a5 k_a6
  refine grow_call rfl rfl ?_
  go_wp2_with (go_at_call 11; refine (lsame_b _ _ _ _ _ _ _ _ _ _ R3 R4 (Nat.le_refl _) (Nat.le_refl _) (by have h1 := R3.len; omega)).mono ?_; rintro _ _ ⟨rfl, B⟩; replace BB := bon BB B; replace a0 := cell_below B a0; replace a1 := cell_below B a1; replace a2 := cell_below B a2; replace a4 := cell_below B a4; replace a5 := cell_below B a5; replace a6 := cell_below B a6)
  refine ⟨Grows.of B, ?_⟩
  clear B
  have k_a0 := cell_regrown a0
  have k_a1 := cell_regrown a1
  have k_a2 := cell_regrown a2
  have k_a4 := cell_regrown a4
  have k_a5 := cell_regrown a5
  have k_a6 := cell_regrown a6
  refine grow_read rfl rfl ?_
  (first | go_big_quiet_step (fail) | quiet_step (fail))
  refine wpQuiet_nil ?_
  refine grow_read rfl rfl ?_
  (first | go_big_quiet_step (fail) | quiet_step (fail))
  refine wpQuiet_nil ?_
  clear k_a0 k_a1 k_a2 k_a4 k_a5 k_a6
  refine grow_call rfl rfl ?_
  go_wp2_with (go_at_call 14; refine (hexample_b _).mono ?_; rintro _ _ ⟨rfl, B⟩; replace BB := bon BB B; replace a0 := cell_below B a0; replace a1 := cell_below B a1; replace a2 := cell_below B a2; replace a4 := cell_below B a4; replace a5 := cell_below B a5; replace a6 := cell_below B a6)
  refine ⟨Grows.of B, ?_⟩
  clear B
  have k_a0 := cell_regrown a0
  have k_a1 := cell_regrown a1
  have k_a2 := cell_regrown a2
  have k_a4 := cell_regrown a4
  have k_a5 := cell_regrown a5
  have k_a6 := cell_regrown a6
  refine grow_read rfl rfl ?_
  (first | go_big_quiet_step (fail) | quiet_step (fail))
  refine wpQuiet_nil ?_
  refine grow_read rfl rfl ?_
  (first | go_big_quiet_step (fail) | quiet_step (fail))
  refine wpQuiet_nil ?_
  clear k_a0 k_a1 k_a2 k_a4 k_a5 k_a6
  refine grow_nil ?_
  go_wp2
  go_ret
  exact ⟨rfl, BB⟩

set_option maxRecDepth 100000 in
theorem layout_walk (A : Option Addr) (n c : Nat) (l : List At) (t : Int) (w : World) (R : RdA w w.heap.size A n l) (hn : n ≤ 9223372036854775807) :
    Calls Try.prog 5 #[.int .i64 t, .slice A n c] w fun e w' => e = .returned (.bool true) ∧ Below w.heap.size w w' := by
  have BB : Below w.heap.size w w := Below.refl _ _
  have K1 := Lib.hid R
  by_cases h : n ≤ 1000
  · have C1 := Lib.hid (fun W => of_q (isize_q t W))
    have C2 := Lib.hid (fun W => of_q (risize_q t W))
    have C3 := Lib.hid (fun W R => comps_b A n c l W R (by omega))
    have C4 := Lib.hid (fun W R => rcomps_b A n c l W R (by omega))
    have C5 := Lib.hid (fun W R => valid_b A n c l W R hn)
    have C6 := Lib.hid (fun W R => rvalidA_b A n c l W R hn)
    obtain ⟨x, hx⟩ : ∃ x, isz t = x := ⟨_, rfl⟩
    obtain ⟨y, hy⟩ : ∃ y, csum l = y := ⟨_, rfl⟩
    obtain ⟨z, hz⟩ : ∃ z, vldb l = z := ⟨_, rfl⟩
    rw [hx] at C1 C2
    rw [hy] at C3 C4
    rw [hz] at C5 C6
    clear R hx hy hz
    go_enter Try.func5, Try.ntmps5
    go_wp2_with (first
      | (go_at_call 17; (with_reducible refine (C1.out _).mono ?_); rintro _ W1 ⟨rfl, B⟩; replace BB := bon BB B)
      | (go_at_call 18; (with_reducible refine (C2.out _).mono ?_); rintro _ W1 ⟨rfl, B⟩; replace BB := bon BB B)
      | (go_at_call 19; (with_reducible refine (C3.out _ ((K1.out.below BB).more BB.size)).mono ?_); rintro _ W1 ⟨rfl, B⟩; replace BB := bon BB B)
      | (go_at_call 20; (with_reducible refine (C4.out _ ((K1.out.below BB).more BB.size)).mono ?_); rintro _ W1 ⟨rfl, B⟩; replace BB := bon BB B)
      | (go_at_call 21; (with_reducible refine (C5.out _ ((K1.out.below BB).more BB.size)).mono ?_); rintro _ W1 ⟨rfl, B⟩; replace BB := bon BB B)
      | (go_at_call 22; (with_reducible refine (C6.out _ ((K1.out.below BB).more BB.size)).mono ?_); rintro _ W1 ⟨rfl, B⟩; replace BB := bon BB B)
      | (go_at_call 14; (with_reducible refine (hexample_b _).mono ?_); rintro _ W1 ⟨rfl, B⟩; replace BB := bon BB B))
    go_ret
    exact ⟨rfl, BB⟩
  · clear R
    go_enter Try.func5, Try.ntmps5
    go_wp2_with (go_at_call 14; (with_reducible refine (hexample_b _).mono ?_); rintro _ W1 ⟨rfl, B⟩; replace BB := bon BB B)
    go_ret
    exact ⟨rfl, BB⟩

set_option maxRecDepth 100000 in
theorem unique_walk (A : Option Addr) (n c : Nat) (l : List Int) (w : World) (R : Rd w w.heap.size .i64 A n l) (hn : n ≤ 9223372036854775807) :
    Calls Try.prog 6 #[.slice A n c] w fun e w' => e = .returned (.bool true) ∧ Below w.heap.size w w' := by
  have BB : Below w.heap.size w w := Below.refl _ _
  have K1 := Lib.hid R
  by_cases h : n ≤ 300
  · have C1 := Lib.hid (fun W R => unique_b A n c l W R (by omega))
    have C2 := Lib.hid (fun W R => runique_b A n c l W R (by omega))
    have h1 := uq_len1 l n (by rw [R.len]; omega)
    have h2 := uq_len2 l n (by rw [R.len]; omega)
    rw [← R.len, List.take_length, R.len] at h1 h2
    obtain ⟨⟨d, p⟩, hs⟩ : ∃ s, uq l = s := ⟨_, rfl⟩
    rw [hs] at C1 C2 h1 h2
    have H1 := Lib.hid h1
    have H2 := Lib.hid h2
    clear R hs h1 h2
    go_enter Try.func6, Try.ntmps6
    go_wp2_with (first
      | (go_at_call 23; (with_reducible refine (C1.out _ ((K1.out.below BB).more BB.size)).mono ?_); rintro _ W1 ⟨A5, n5, d5, A6, n6, d6, rfl, R5, R6, B⟩; dsimp only at R5 R6; replace BB := bon BB B; clear B)
      | (go_at_call 24; (with_reducible refine (C2.out _ ((K1.out.below BB).more BB.size)).mono ?_); rintro _ W1 ⟨A7, n7, d7, A8, n8, d8, rfl, R7, R8, B⟩; dsimp only at R7 R8; replace BB := bon BB B; replace R5 := R5.on B; replace R6 := R6.on B; clear B)
      | (go_at_call 11; (with_reducible refine (lsame_b _ _ _ _ _ _ _ _ _ _ R5 R7 (Nat.le_refl _) (Nat.le_refl _) (by have q1 := R5.len; have q2 := H1.out; omega)).mono ?_); rintro _ W3 ⟨rfl, B⟩; replace BB := bon BB B; replace R6 := R6.on B; replace R8 := R8.on B; clear B R5 R7)
      | (go_at_call 11; (with_reducible refine (lsame_b _ _ _ _ _ _ _ _ _ _ R6 R8 (Nat.le_refl _) (Nat.le_refl _) (by have q1 := R6.len; have q2 := H2.out; omega)).mono ?_); rintro _ W3 ⟨rfl, B⟩; replace BB := bon BB B; clear B R6 R8)
      | (go_at_call 14; (with_reducible refine (hexample_b _).mono ?_); rintro _ W9 ⟨rfl, B⟩; replace BB := bon BB B; clear B))
    go_ret
    exact ⟨rfl, BB⟩
  · clear R
    go_enter Try.func6, Try.ntmps6
    go_wp2_with (go_at_call 14; (with_reducible refine (hexample_b _).mono ?_); rintro _ W1 ⟨rfl, B⟩; replace BB := bon BB B)
    go_ret
    exact ⟨rfl, BB⟩

end Go.Proofs.Ytfakmeimideoaaa
