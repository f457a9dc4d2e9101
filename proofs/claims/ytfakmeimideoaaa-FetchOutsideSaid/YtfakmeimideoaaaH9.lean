/- The walk of FetchOutside. -/
import Derived.Test.YtfakmeimideoaaaH6
namespace Go.Proofs.Ytfakmeimideoaaa
open Go.RowKit Go.Sort Go.ChangeShapes Go.WideShapes
set_option linter.unusedVariables false

theorem vtx_out {v : Int} {l : List At} (h : vldb l = true) : vtx [] v l = List.replicate (csum l) 0 ∧ csum l ≤ 32 := by
  have g := vldb_iff.1 h
  exact ⟨vtx_nil v g.2.2, g.2.1⟩

/-- Behind region 4: the vertex without buffers. -/
def Rest (w : World) : Prop := True

set_option maxRecDepth 100000 in
set_option maxHeartbeats 4000000 in
theorem out_a_neg_n (A0 A1 A2 : Option Addr) (n0 c0 n1 c1 n2 c2 : Nat) (l0 : List Int) (l1 : List At) (l2 : List Bf) (t i m v : Int) (w : World) (R0 : Rd w w.heap.size .u8 A0 n0 l0) (R1 : RdA w w.heap.size A1 n1 l1) (R2 : RdB w w.heap.size A2 n2 l2) (hn0 : n0 ≤ 9223372036854775807) (hn1 : n1 ≤ 9223372036854775807) (hs : isz t ≤ 0) (hi : i < 0) (hv : vldb l1 = false) :
    Calls Try.prog 8 #[.agg #[.slice A0 n0 c0, .int .i64 t, .int .i64 i, .int .i64 m, .slice A1 n1 c1, .slice A2 n2 c2, .int .i64 v]] w fun e w' => e = .returned (.bool true) ∧ Below w.heap.size w w' := by
  have BB := box_below w #[.slice A0 n0 c0, .int .i64 t, .int .i64 i, .int .i64 m, .slice A1 n1 c1, .slice A2 n2 c2, .int .i64 v] 27
  have a0 := box_cell w #[.slice A0 n0 c0, .int .i64 t, .int .i64 i, .int .i64 m, .slice A1 n1 c1, .slice A2 n2 c2, .int .i64 v] 27 0 _ rfl
  have a1 := box_cell w #[.slice A0 n0 c0, .int .i64 t, .int .i64 i, .int .i64 m, .slice A1 n1 c1, .slice A2 n2 c2, .int .i64 v] 27 1 _ rfl
  have a2 := box_cell w #[.slice A0 n0 c0, .int .i64 t, .int .i64 i, .int .i64 m, .slice A1 n1 c1, .slice A2 n2 c2, .int .i64 v] 27 2 _ rfl
  have a4 := box_cell w #[.slice A0 n0 c0, .int .i64 t, .int .i64 i, .int .i64 m, .slice A1 n1 c1, .slice A2 n2 c2, .int .i64 v] 27 4 _ rfl
  have a6 := box_cell w #[.slice A0 n0 c0, .int .i64 t, .int .i64 i, .int .i64 m, .slice A1 n1 c1, .slice A2 n2 c2, .int .i64 v] 27 6 _ rfl
  have K0 := Lib.hid R0
  have K1 := Lib.hid R1
  have CS := Lib.hid (fun W => of_q (isize_q t W))
  have CI := Lib.hid (fun W R => index_b A0 n0 c0 l0 t i W R hn0)
  have CN := Lib.hid (fun W R => index_b A0 n0 c0 l0 1 i W R hn0)
  have CV := Lib.hid (fun W R => vertex_b A1 none n1 c1 0 0 l1 [] v W R (RdB.nil _ _ _) hn1)
  have CW := Lib.hid (fun W R => valid_b A1 n1 c1 l1 W R hn1)
  have HE : Hid (0 < isz t → (n0 : Int) / isz t ≤ i → idx l0 t i = 0) := Lib.hid fun h0 h1 => idx_end h0 (by rw [R0.len]; exact h1)
  obtain ⟨s, hss⟩ : ∃ s, isz t = s := ⟨_, rfl⟩
  rw [hss] at CS hs
  have ts : decide (0 < s) = false := decide_eq_false (by omega)
  clear HE hss
  have ti : decide (0 ≤ i) = false := decide_eq_false (by omega)
  have HN : Hid ((if vldb l1 = true then vtx [] v l1 else []).length = 0) := Lib.hid (by rw [hv]; rfl)
  rw [hv] at CW
  obtain ⟨L, hL⟩ : ∃ L, (if vldb l1 = true then vtx [] v l1 else []) = L := ⟨_, rfl⟩
  rw [hL] at CV HN
  clear hL hv
  clear R0 R1 R2
  go_enter Try.func8, Try.ntmps8
  go_wp2_with (first | (go_at_call 17; refine (CS.out _).mono ?_; rintro _ _ ⟨rfl, B⟩; replace BB := bon BB B; replace a0 := cell_below B a0; replace a1 := cell_below B a1; replace a2 := cell_below B a2; replace a4 := cell_below B a4; replace a6 := cell_below B a6))
  have k_a0 := cell_regrown a0
  have k_a1 := cell_regrown a1
  have k_a2 := cell_regrown a2
  have k_a4 := cell_regrown a4
  have k_a6 := cell_regrown a6
  refine wp_region_quiet_below (by kernel_rfl) (by kernel_rfl) ?_
  repeat (first | go_big_quiet_step ((first | fail)) | quiet_step ((first | fail)))
  refine wpQuiet_nil ?_
  intro W hw'
  have B := below_regrown' hw'
  clear hw' k_a0 k_a1 k_a2 k_a4 k_a6
  replace BB := bon BB B
  replace a0 := cell_below B a0
  replace a1 := cell_below B a1
  replace a2 := cell_below B a2
  replace a4 := cell_below B a4
  replace a6 := cell_below B a6
  go_wp2
  have k_a0 := cell_regrown a0
  have k_a1 := cell_regrown a1
  have k_a2 := cell_regrown a2
  have k_a4 := cell_regrown a4
  have k_a6 := cell_regrown a6
  refine wp_region_quiet_below (by kernel_rfl) (by kernel_rfl) ?_
  repeat (first | go_big_quiet_step ((first | fail)) | quiet_step ((first | fail)))
  refine wpQuiet_nil ?_
  intro W hw'
  have B := below_regrown' hw'
  clear hw' k_a0 k_a1 k_a2 k_a4 k_a6
  replace BB := bon BB B
  replace a0 := cell_below B a0
  replace a1 := cell_below B a1
  replace a2 := cell_below B a2
  replace a4 := cell_below B a4
  replace a6 := cell_below B a6
  go_wp2_with (first
    | (go_at_call 12; (with_reducible refine (CV.out _ ((K1.out.below BB).more BB.size)).mono ?_); rintro _ W5 ⟨A5, n5, d5, rfl, _, R5, B⟩; obtain rfl : n5 = 0 := (by have q1 := R5.len; have q2 := HN.out; omega); have K5 := Lib.hid R5; replace BB := bon BB B; replace a4 := cell_below B a4; clear B R5)
    | (go_at_call 21; (with_reducible refine (CW.out _ ((K1.out.below BB).more BB.size)).mono ?_); rintro _ W6 ⟨rfl, B⟩; replace BB := bon BB B; replace a4 := cell_below B a4; replace K5 := Lib.hid (K5.out.on B); clear B)
    | (go_at_call 14; (with_reducible refine (hexample_b _).mono ?_); rintro _ W9 ⟨rfl, B⟩; replace BB := bon BB B; clear B))
  go_ret
  exact ⟨rfl, BB⟩

set_option maxRecDepth 100000 in
set_option maxHeartbeats 4000000 in
theorem out_a_neg_y (A0 A1 A2 : Option Addr) (n0 c0 n1 c1 n2 c2 : Nat) (l0 : List Int) (l1 : List At) (l2 : List Bf) (t i m v : Int) (w : World) (R0 : Rd w w.heap.size .u8 A0 n0 l0) (R1 : RdA w w.heap.size A1 n1 l1) (R2 : RdB w w.heap.size A2 n2 l2) (hn0 : n0 ≤ 9223372036854775807) (hn1 : n1 ≤ 9223372036854775807) (hs : isz t ≤ 0) (hi : i < 0) (hv : vldb l1 = true) :
    Calls Try.prog 8 #[.agg #[.slice A0 n0 c0, .int .i64 t, .int .i64 i, .int .i64 m, .slice A1 n1 c1, .slice A2 n2 c2, .int .i64 v]] w fun e w' => e = .returned (.bool true) ∧ Below w.heap.size w w' := by
  have BB := box_below w #[.slice A0 n0 c0, .int .i64 t, .int .i64 i, .int .i64 m, .slice A1 n1 c1, .slice A2 n2 c2, .int .i64 v] 27
  have a0 := box_cell w #[.slice A0 n0 c0, .int .i64 t, .int .i64 i, .int .i64 m, .slice A1 n1 c1, .slice A2 n2 c2, .int .i64 v] 27 0 _ rfl
  have a1 := box_cell w #[.slice A0 n0 c0, .int .i64 t, .int .i64 i, .int .i64 m, .slice A1 n1 c1, .slice A2 n2 c2, .int .i64 v] 27 1 _ rfl
  have a2 := box_cell w #[.slice A0 n0 c0, .int .i64 t, .int .i64 i, .int .i64 m, .slice A1 n1 c1, .slice A2 n2 c2, .int .i64 v] 27 2 _ rfl
  have a4 := box_cell w #[.slice A0 n0 c0, .int .i64 t, .int .i64 i, .int .i64 m, .slice A1 n1 c1, .slice A2 n2 c2, .int .i64 v] 27 4 _ rfl
  have a6 := box_cell w #[.slice A0 n0 c0, .int .i64 t, .int .i64 i, .int .i64 m, .slice A1 n1 c1, .slice A2 n2 c2, .int .i64 v] 27 6 _ rfl
  have K0 := Lib.hid R0
  have K1 := Lib.hid R1
  have CS := Lib.hid (fun W => of_q (isize_q t W))
  have CI := Lib.hid (fun W R => index_b A0 n0 c0 l0 t i W R hn0)
  have CN := Lib.hid (fun W R => index_b A0 n0 c0 l0 1 i W R hn0)
  have CV := Lib.hid (fun W R => vertex_b A1 none n1 c1 0 0 l1 [] v W R (RdB.nil _ _ _) hn1)
  have CW := Lib.hid (fun W R => valid_b A1 n1 c1 l1 W R hn1)
  have HE : Hid (0 < isz t → (n0 : Int) / isz t ≤ i → idx l0 t i = 0) := Lib.hid fun h0 h1 => idx_end h0 (by rw [R0.len]; exact h1)
  obtain ⟨s, hss⟩ : ∃ s, isz t = s := ⟨_, rfl⟩
  rw [hss] at CS hs
  have ts : decide (0 < s) = false := decide_eq_false (by omega)
  clear HE hss
  have ti : decide (0 ≤ i) = false := decide_eq_false (by omega)
  have CC := Lib.hid (fun W R => comps_b A1 n1 c1 l1 W R (by have := (vldb_iff.1 hv).1; have := R1.len; omega))
  have HZ := Lib.hid (vtx_out (v := v) hv)
  rw [hv] at CW
  obtain ⟨L, hL⟩ : ∃ L, (if vldb l1 = true then vtx [] v l1 else []) = L := ⟨_, rfl⟩
  rw [hL] at CV
  rw [if_pos hv] at hL
  replace HZ : Hid (L = List.replicate (csum l1) 0) := Lib.hid (by rw [← hL]; exact HZ.out.1)
  obtain ⟨N, hN⟩ : ∃ N, csum l1 = N := ⟨_, rfl⟩
  rw [hN] at CC HZ
  have hN32 : N ≤ 32 := by rw [← hN]; exact (vtx_out (v := v) hv).2
  have HN : Hid (L.length = N) := Lib.hid (by rw [HZ.out, List.length_replicate])
  clear hL hN hv
  clear R0 R1 R2
  go_enter Try.func8, Try.ntmps8
  go_wp2_with (first | (go_at_call 17; refine (CS.out _).mono ?_; rintro _ _ ⟨rfl, B⟩; replace BB := bon BB B; replace a0 := cell_below B a0; replace a1 := cell_below B a1; replace a2 := cell_below B a2; replace a4 := cell_below B a4; replace a6 := cell_below B a6))
  have k_a0 := cell_regrown a0
  have k_a1 := cell_regrown a1
  have k_a2 := cell_regrown a2
  have k_a4 := cell_regrown a4
  have k_a6 := cell_regrown a6
  refine wp_region_quiet_below (by kernel_rfl) (by kernel_rfl) ?_
  repeat (first | go_big_quiet_step ((first | fail)) | quiet_step ((first | fail)))
  refine wpQuiet_nil ?_
  intro W hw'
  have B := below_regrown' hw'
  clear hw' k_a0 k_a1 k_a2 k_a4 k_a6
  replace BB := bon BB B
  replace a0 := cell_below B a0
  replace a1 := cell_below B a1
  replace a2 := cell_below B a2
  replace a4 := cell_below B a4
  replace a6 := cell_below B a6
  go_wp2
  have k_a0 := cell_regrown a0
  have k_a1 := cell_regrown a1
  have k_a2 := cell_regrown a2
  have k_a4 := cell_regrown a4
  have k_a6 := cell_regrown a6
  refine wp_region_quiet_below (by kernel_rfl) (by kernel_rfl) ?_
  repeat (first | go_big_quiet_step ((first | fail)) | quiet_step ((first | fail)))
  refine wpQuiet_nil ?_
  intro W hw'
  have B := below_regrown' hw'
  clear hw' k_a0 k_a1 k_a2 k_a4 k_a6
  replace BB := bon BB B
  replace a0 := cell_below B a0
  replace a1 := cell_below B a1
  replace a2 := cell_below B a2
  replace a4 := cell_below B a4
  replace a6 := cell_below B a6
  go_wp2_with (first
    | (go_at_call 12; (with_reducible refine (CV.out _ ((K1.out.below BB).more BB.size)).mono ?_); rintro _ W5 ⟨A5, n5, d5, rfl, _, R5, B⟩; obtain rfl : n5 = N := (by have q1 := R5.len; have q2 := HN.out; omega); have K5 := Lib.hid R5; replace BB := bon BB B; replace a4 := cell_below B a4; clear B R5)
    | (go_at_call 21; (with_reducible refine (CW.out _ ((K1.out.below BB).more BB.size)).mono ?_); rintro _ W6 ⟨rfl, B⟩; replace BB := bon BB B; replace a4 := cell_below B a4; replace K5 := Lib.hid (K5.out.on B); clear B)
    | (go_at_call 14; (with_reducible refine (hexample_b _).mono ?_); rintro _ W9 ⟨rfl, B⟩; replace BB := bon BB B; clear B))
  rename World => wv
  have B0 := Below.refl wv.heap.size wv
  go_loopw [5] (fun j wr => ∃ k : Nat, k ≤ n5 ∧ j = .int .i64 (k : Int) ∧ Below wv.heap.size wv wr) (fun j _ => n5 - (intOf j).toNat)
  case atStart => exact ⟨0, by omega, rfl, B0⟩
  case round =>
    clear B0
    obtain ⟨k, hk, rfl, B0⟩ := hrel
    rename World => wr
    by_cases hlt : k < n5
    · obtain ⟨b5, o5, x, rfl, cx, x0, x1, hx⟩ := (K5.out.below B0).int hlt
      obtain rfl : x = 0 := (by have h9 := hx.out; rw [HZ.out] at h9; exact List.eq_of_mem_replicate (List.mem_of_getElem? h9))
      clear hx
      go_wp2
      go_roundw
      case rel => exact ⟨k + 1, by omega, by go_num, B0⟩
      case measure => simp [intOf]; omega
    · obtain rfl : k = n5 := by omega
      replace BB := bon BB B0
      replace a4 := cell_below B0 a4
      clear B0
      go_wp2_with (first
        | (go_at_call 19; (with_reducible refine (CC.out _ ((K1.out.below BB).more BB.size)).mono ?_); rintro _ W7 ⟨rfl, B⟩; replace BB := bon BB B; clear B)
        | (go_at_call 14; (with_reducible refine (hexample_b _).mono ?_); rintro _ W9 ⟨rfl, B⟩; replace BB := bon BB B; clear B))
      go_ret
      exact ⟨rfl, BB⟩

set_option maxRecDepth 100000 in
set_option maxHeartbeats 4000000 in
theorem out_a_pos_n (A0 A1 A2 : Option Addr) (n0 c0 n1 c1 n2 c2 : Nat) (l0 : List Int) (l1 : List At) (l2 : List Bf) (t i m v : Int) (w : World) (R0 : Rd w w.heap.size .u8 A0 n0 l0) (R1 : RdA w w.heap.size A1 n1 l1) (R2 : RdB w w.heap.size A2 n2 l2) (hn0 : n0 ≤ 9223372036854775807) (hn1 : n1 ≤ 9223372036854775807) (hs : isz t ≤ 0) (hi : 0 ≤ i) (hv : vldb l1 = false) :
    Calls Try.prog 8 #[.agg #[.slice A0 n0 c0, .int .i64 t, .int .i64 i, .int .i64 m, .slice A1 n1 c1, .slice A2 n2 c2, .int .i64 v]] w fun e w' => e = .returned (.bool true) ∧ Below w.heap.size w w' := by
  have BB := box_below w #[.slice A0 n0 c0, .int .i64 t, .int .i64 i, .int .i64 m, .slice A1 n1 c1, .slice A2 n2 c2, .int .i64 v] 27
  have a0 := box_cell w #[.slice A0 n0 c0, .int .i64 t, .int .i64 i, .int .i64 m, .slice A1 n1 c1, .slice A2 n2 c2, .int .i64 v] 27 0 _ rfl
  have a1 := box_cell w #[.slice A0 n0 c0, .int .i64 t, .int .i64 i, .int .i64 m, .slice A1 n1 c1, .slice A2 n2 c2, .int .i64 v] 27 1 _ rfl
  have a2 := box_cell w #[.slice A0 n0 c0, .int .i64 t, .int .i64 i, .int .i64 m, .slice A1 n1 c1, .slice A2 n2 c2, .int .i64 v] 27 2 _ rfl
  have a4 := box_cell w #[.slice A0 n0 c0, .int .i64 t, .int .i64 i, .int .i64 m, .slice A1 n1 c1, .slice A2 n2 c2, .int .i64 v] 27 4 _ rfl
  have a6 := box_cell w #[.slice A0 n0 c0, .int .i64 t, .int .i64 i, .int .i64 m, .slice A1 n1 c1, .slice A2 n2 c2, .int .i64 v] 27 6 _ rfl
  have K0 := Lib.hid R0
  have K1 := Lib.hid R1
  have CS := Lib.hid (fun W => of_q (isize_q t W))
  have CI := Lib.hid (fun W R => index_b A0 n0 c0 l0 t i W R hn0)
  have CN := Lib.hid (fun W R => index_b A0 n0 c0 l0 1 i W R hn0)
  have CV := Lib.hid (fun W R => vertex_b A1 none n1 c1 0 0 l1 [] v W R (RdB.nil _ _ _) hn1)
  have CW := Lib.hid (fun W R => valid_b A1 n1 c1 l1 W R hn1)
  have HE : Hid (0 < isz t → (n0 : Int) / isz t ≤ i → idx l0 t i = 0) := Lib.hid fun h0 h1 => idx_end h0 (by rw [R0.len]; exact h1)
  obtain ⟨s, hss⟩ : ∃ s, isz t = s := ⟨_, rfl⟩
  rw [hss] at CS hs
  have ts : decide (0 < s) = false := decide_eq_false (by omega)
  clear HE hss
  rw [idx_no l0 hi] at CN
  have ti : decide (0 ≤ i) = true := decide_eq_true hi
  have HN : Hid ((if vldb l1 = true then vtx [] v l1 else []).length = 0) := Lib.hid (by rw [hv]; rfl)
  rw [hv] at CW
  obtain ⟨L, hL⟩ : ∃ L, (if vldb l1 = true then vtx [] v l1 else []) = L := ⟨_, rfl⟩
  rw [hL] at CV HN
  clear hL hv
  clear R0 R1 R2
  go_enter Try.func8, Try.ntmps8
  go_wp2_with (first | (go_at_call 17; refine (CS.out _).mono ?_; rintro _ _ ⟨rfl, B⟩; replace BB := bon BB B; replace a0 := cell_below B a0; replace a1 := cell_below B a1; replace a2 := cell_below B a2; replace a4 := cell_below B a4; replace a6 := cell_below B a6))
  have k_a0 := cell_regrown a0
  have k_a1 := cell_regrown a1
  have k_a2 := cell_regrown a2
  have k_a4 := cell_regrown a4
  have k_a6 := cell_regrown a6
  refine wp_region_quiet_below (by kernel_rfl) (by kernel_rfl) ?_
  repeat (first | go_big_quiet_step ((first | fail)) | quiet_step ((first | fail)))
  refine wpQuiet_nil ?_
  intro W hw'
  have B := below_regrown' hw'
  clear hw' k_a0 k_a1 k_a2 k_a4 k_a6
  replace BB := bon BB B
  replace a0 := cell_below B a0
  replace a1 := cell_below B a1
  replace a2 := cell_below B a2
  replace a4 := cell_below B a4
  replace a6 := cell_below B a6
  go_wp2
  refine wp_region_grow [0, 1, 2, 3, 4, 5, 6, 7, 9, 10, 8, 11, 12] (by kernel_rfl) (by kernel_rfl) ?_
  intro W B
  replace BB := bon BB B
  replace a0 := cell_below B a0
  replace a1 := cell_below B a1
  replace a2 := cell_below B a2
  replace a4 := cell_below B a4
  replace a6 := cell_below B a6
  clear B
  have k_a0 := cell_regrown a0
  have k_a1 := cell_regrown a1
  have k_a2 := cell_regrown a2
  have k_a4 := cell_regrown a4
  have k_a6 := cell_regrown a6
  refine grow_read rfl rfl ?_
  (first | go_big_quiet_step (fail) | quiet_step (fail))
  refine wpQuiet_nil ?_
  refine grow_read rfl rfl ?_
  (first | go_big_quiet_step (fail) | quiet_step (fail))
  refine wpQuiet_nil ?_
  refine grow_read rfl rfl ?_
  (first | go_big_quiet_step (fail) | quiet_step (fail))
  refine wpQuiet_nil ?_
  refine grow_read rfl rfl ?_
  (first | go_big_quiet_step (fail) | quiet_step (fail))
  refine wpQuiet_nil ?_
  refine grow_read rfl rfl ?_
  (first | go_big_quiet_step (fail) | quiet_step (fail))
  refine wpQuiet_nil ?_
  refine grow_read rfl rfl ?_
  (first | go_big_quiet_step (fail) | quiet_step (fail))
  refine wpQuiet_nil ?_
  refine grow_read rfl rfl ?_
  (first | go_big_quiet_step (fail) | quiet_step (fail))
  refine wpQuiet_nil ?_
  refine grow_read rfl rfl ?_
  (first | go_big_quiet_step (fail) | quiet_step (fail))
  refine wpQuiet_nil ?_
  refine grow_read rfl rfl ?_
  (first | go_big_quiet_step (fail) | quiet_step (fail))
  refine wpQuiet_nil ?_
  refine grow_read rfl rfl ?_
  (first | go_big_quiet_step (fail) | quiet_step (fail))
  refine wpQuiet_nil ?_
  clear k_a0 k_a1 k_a2 k_a4 k_a6
  refine grow_call rfl rfl ?_
  go_wp2_with (go_at_call 9; refine (CN.out _ ((K0.out.below BB).more BB.size)).mono ?_; rintro _ _ ⟨rfl, B⟩; replace BB := bon BB B; replace a0 := cell_below B a0; replace a1 := cell_below B a1; replace a2 := cell_below B a2; replace a4 := cell_below B a4; replace a6 := cell_below B a6)
  refine ⟨Grows.of B, ?_⟩
  clear B
  have k_a0 := cell_regrown a0
  have k_a1 := cell_regrown a1
  have k_a2 := cell_regrown a2
  have k_a4 := cell_regrown a4
  have k_a6 := cell_regrown a6
  refine grow_read rfl rfl ?_
  (first | go_big_quiet_step (fail) | quiet_step (fail))
  refine wpQuiet_nil ?_
  refine grow_read rfl rfl ?_
  (first | go_big_quiet_step (fail) | quiet_step (fail))
  refine wpQuiet_nil ?_
  clear k_a0 k_a1 k_a2 k_a4 k_a6
  refine grow_nil ?_
  go_wp2_with (first
    | (go_at_call 12; (with_reducible refine (CV.out _ ((K1.out.below BB).more BB.size)).mono ?_); rintro _ W5 ⟨A5, n5, d5, rfl, _, R5, B⟩; obtain rfl : n5 = 0 := (by have q1 := R5.len; have q2 := HN.out; omega); have K5 := Lib.hid R5; replace BB := bon BB B; replace a4 := cell_below B a4; clear B R5)
    | (go_at_call 21; (with_reducible refine (CW.out _ ((K1.out.below BB).more BB.size)).mono ?_); rintro _ W6 ⟨rfl, B⟩; replace BB := bon BB B; replace a4 := cell_below B a4; replace K5 := Lib.hid (K5.out.on B); clear B)
    | (go_at_call 14; (with_reducible refine (hexample_b _).mono ?_); rintro _ W9 ⟨rfl, B⟩; replace BB := bon BB B; clear B))
  go_ret
  exact ⟨rfl, BB⟩

set_option maxRecDepth 100000 in
set_option maxHeartbeats 4000000 in
theorem out_a_pos_y (A0 A1 A2 : Option Addr) (n0 c0 n1 c1 n2 c2 : Nat) (l0 : List Int) (l1 : List At) (l2 : List Bf) (t i m v : Int) (w : World) (R0 : Rd w w.heap.size .u8 A0 n0 l0) (R1 : RdA w w.heap.size A1 n1 l1) (R2 : RdB w w.heap.size A2 n2 l2) (hn0 : n0 ≤ 9223372036854775807) (hn1 : n1 ≤ 9223372036854775807) (hs : isz t ≤ 0) (hi : 0 ≤ i) (hv : vldb l1 = true) :
    Calls Try.prog 8 #[.agg #[.slice A0 n0 c0, .int .i64 t, .int .i64 i, .int .i64 m, .slice A1 n1 c1, .slice A2 n2 c2, .int .i64 v]] w fun e w' => e = .returned (.bool true) ∧ Below w.heap.size w w' := by
  have BB := box_below w #[.slice A0 n0 c0, .int .i64 t, .int .i64 i, .int .i64 m, .slice A1 n1 c1, .slice A2 n2 c2, .int .i64 v] 27
  have a0 := box_cell w #[.slice A0 n0 c0, .int .i64 t, .int .i64 i, .int .i64 m, .slice A1 n1 c1, .slice A2 n2 c2, .int .i64 v] 27 0 _ rfl
  have a1 := box_cell w #[.slice A0 n0 c0, .int .i64 t, .int .i64 i, .int .i64 m, .slice A1 n1 c1, .slice A2 n2 c2, .int .i64 v] 27 1 _ rfl
  have a2 := box_cell w #[.slice A0 n0 c0, .int .i64 t, .int .i64 i, .int .i64 m, .slice A1 n1 c1, .slice A2 n2 c2, .int .i64 v] 27 2 _ rfl
  have a4 := box_cell w #[.slice A0 n0 c0, .int .i64 t, .int .i64 i, .int .i64 m, .slice A1 n1 c1, .slice A2 n2 c2, .int .i64 v] 27 4 _ rfl
  have a6 := box_cell w #[.slice A0 n0 c0, .int .i64 t, .int .i64 i, .int .i64 m, .slice A1 n1 c1, .slice A2 n2 c2, .int .i64 v] 27 6 _ rfl
  have K0 := Lib.hid R0
  have K1 := Lib.hid R1
  have CS := Lib.hid (fun W => of_q (isize_q t W))
  have CI := Lib.hid (fun W R => index_b A0 n0 c0 l0 t i W R hn0)
  have CN := Lib.hid (fun W R => index_b A0 n0 c0 l0 1 i W R hn0)
  have CV := Lib.hid (fun W R => vertex_b A1 none n1 c1 0 0 l1 [] v W R (RdB.nil _ _ _) hn1)
  have CW := Lib.hid (fun W R => valid_b A1 n1 c1 l1 W R hn1)
  have HE : Hid (0 < isz t → (n0 : Int) / isz t ≤ i → idx l0 t i = 0) := Lib.hid fun h0 h1 => idx_end h0 (by rw [R0.len]; exact h1)
  obtain ⟨s, hss⟩ : ∃ s, isz t = s := ⟨_, rfl⟩
  rw [hss] at CS hs
  have ts : decide (0 < s) = false := decide_eq_false (by omega)
  clear HE hss
  rw [idx_no l0 hi] at CN
  have ti : decide (0 ≤ i) = true := decide_eq_true hi
  have CC := Lib.hid (fun W R => comps_b A1 n1 c1 l1 W R (by have := (vldb_iff.1 hv).1; have := R1.len; omega))
  have HZ := Lib.hid (vtx_out (v := v) hv)
  rw [hv] at CW
  obtain ⟨L, hL⟩ : ∃ L, (if vldb l1 = true then vtx [] v l1 else []) = L := ⟨_, rfl⟩
  rw [hL] at CV
  rw [if_pos hv] at hL
  replace HZ : Hid (L = List.replicate (csum l1) 0) := Lib.hid (by rw [← hL]; exact HZ.out.1)
  obtain ⟨N, hN⟩ : ∃ N, csum l1 = N := ⟨_, rfl⟩
  rw [hN] at CC HZ
  have hN32 : N ≤ 32 := by rw [← hN]; exact (vtx_out (v := v) hv).2
  have HN : Hid (L.length = N) := Lib.hid (by rw [HZ.out, List.length_replicate])
  clear hL hN hv
  clear R0 R1 R2
  go_enter Try.func8, Try.ntmps8
  go_wp2_with (first | (go_at_call 17; refine (CS.out _).mono ?_; rintro _ _ ⟨rfl, B⟩; replace BB := bon BB B; replace a0 := cell_below B a0; replace a1 := cell_below B a1; replace a2 := cell_below B a2; replace a4 := cell_below B a4; replace a6 := cell_below B a6))
  have k_a0 := cell_regrown a0
  have k_a1 := cell_regrown a1
  have k_a2 := cell_regrown a2
  have k_a4 := cell_regrown a4
  have k_a6 := cell_regrown a6
  refine wp_region_quiet_below (by kernel_rfl) (by kernel_rfl) ?_
  repeat (first | go_big_quiet_step ((first | fail)) | quiet_step ((first | fail)))
  refine wpQuiet_nil ?_
  intro W hw'
  have B := below_regrown' hw'
  clear hw' k_a0 k_a1 k_a2 k_a4 k_a6
  replace BB := bon BB B
  replace a0 := cell_below B a0
  replace a1 := cell_below B a1
  replace a2 := cell_below B a2
  replace a4 := cell_below B a4
  replace a6 := cell_below B a6
  go_wp2
  refine wp_region_grow [0, 1, 2, 3, 4, 5, 6, 7, 9, 10, 8, 11, 12] (by kernel_rfl) (by kernel_rfl) ?_
  intro W B
  replace BB := bon BB B
  replace a0 := cell_below B a0
  replace a1 := cell_below B a1
  replace a2 := cell_below B a2
  replace a4 := cell_below B a4
  replace a6 := cell_below B a6
  clear B
  have k_a0 := cell_regrown a0
  have k_a1 := cell_regrown a1
  have k_a2 := cell_regrown a2
  have k_a4 := cell_regrown a4
  have k_a6 := cell_regrown a6
  refine grow_read rfl rfl ?_
  (first | go_big_quiet_step (fail) | quiet_step (fail))
  refine wpQuiet_nil ?_
  refine grow_read rfl rfl ?_
  (first | go_big_quiet_step (fail) | quiet_step (fail))
  refine wpQuiet_nil ?_
  refine grow_read rfl rfl ?_
  (first | go_big_quiet_step (fail) | quiet_step (fail))
  refine wpQuiet_nil ?_
  refine grow_read rfl rfl ?_
  (first | go_big_quiet_step (fail) | quiet_step (fail))
  refine wpQuiet_nil ?_
  refine grow_read rfl rfl ?_
  (first | go_big_quiet_step (fail) | quiet_step (fail))
  refine wpQuiet_nil ?_
  refine grow_read rfl rfl ?_
  (first | go_big_quiet_step (fail) | quiet_step (fail))
  refine wpQuiet_nil ?_
  refine grow_read rfl rfl ?_
  (first | go_big_quiet_step (fail) | quiet_step (fail))
  refine wpQuiet_nil ?_
  refine grow_read rfl rfl ?_
  (first | go_big_quiet_step (fail) | quiet_step (fail))
  refine wpQuiet_nil ?_
  refine grow_read rfl rfl ?_
  (first | go_big_quiet_step (fail) | quiet_step (fail))
  refine wpQuiet_nil ?_
  refine grow_read rfl rfl ?_
  (first | go_big_quiet_step (fail) | quiet_step (fail))
  refine wpQuiet_nil ?_
  clear k_a0 k_a1 k_a2 k_a4 k_a6
  refine grow_call rfl rfl ?_
  go_wp2_with (go_at_call 9; refine (CN.out _ ((K0.out.below BB).more BB.size)).mono ?_; rintro _ _ ⟨rfl, B⟩; replace BB := bon BB B; replace a0 := cell_below B a0; replace a1 := cell_below B a1; replace a2 := cell_below B a2; replace a4 := cell_below B a4; replace a6 := cell_below B a6)
  refine ⟨Grows.of B, ?_⟩
  clear B
  have k_a0 := cell_regrown a0
  have k_a1 := cell_regrown a1
  have k_a2 := cell_regrown a2
  have k_a4 := cell_regrown a4
  have k_a6 := cell_regrown a6
  refine grow_read rfl rfl ?_
  (first | go_big_quiet_step (fail) | quiet_step (fail))
  refine wpQuiet_nil ?_
  refine grow_read rfl rfl ?_
  (first | go_big_quiet_step (fail) | quiet_step (fail))
  refine wpQuiet_nil ?_
  clear k_a0 k_a1 k_a2 k_a4 k_a6
  refine grow_nil ?_
  go_wp2_with (first
    | (go_at_call 12; (with_reducible refine (CV.out _ ((K1.out.below BB).more BB.size)).mono ?_); rintro _ W5 ⟨A5, n5, d5, rfl, _, R5, B⟩; obtain rfl : n5 = N := (by have q1 := R5.len; have q2 := HN.out; omega); have K5 := Lib.hid R5; replace BB := bon BB B; replace a4 := cell_below B a4; clear B R5)
    | (go_at_call 21; (with_reducible refine (CW.out _ ((K1.out.below BB).more BB.size)).mono ?_); rintro _ W6 ⟨rfl, B⟩; replace BB := bon BB B; replace a4 := cell_below B a4; replace K5 := Lib.hid (K5.out.on B); clear B)
    | (go_at_call 14; (with_reducible refine (hexample_b _).mono ?_); rintro _ W9 ⟨rfl, B⟩; replace BB := bon BB B; clear B))
  rename World => wv
  have B0 := Below.refl wv.heap.size wv
  go_loopw [5] (fun j wr => ∃ k : Nat, k ≤ n5 ∧ j = .int .i64 (k : Int) ∧ Below wv.heap.size wv wr) (fun j _ => n5 - (intOf j).toNat)
  case atStart => exact ⟨0, by omega, rfl, B0⟩
  case round =>
    clear B0
    obtain ⟨k, hk, rfl, B0⟩ := hrel
    rename World => wr
    by_cases hlt : k < n5
    · obtain ⟨b5, o5, x, rfl, cx, x0, x1, hx⟩ := (K5.out.below B0).int hlt
      obtain rfl : x = 0 := (by have h9 := hx.out; rw [HZ.out] at h9; exact List.eq_of_mem_replicate (List.mem_of_getElem? h9))
      clear hx
      go_wp2
      go_roundw
      case rel => exact ⟨k + 1, by omega, by go_num, B0⟩
      case measure => simp [intOf]; omega
    · obtain rfl : k = n5 := by omega
      replace BB := bon BB B0
      replace a4 := cell_below B0 a4
      clear B0
      go_wp2_with (first
        | (go_at_call 19; (with_reducible refine (CC.out _ ((K1.out.below BB).more BB.size)).mono ?_); rintro _ W7 ⟨rfl, B⟩; replace BB := bon BB B; clear B)
        | (go_at_call 14; (with_reducible refine (hexample_b _).mono ?_); rintro _ W9 ⟨rfl, B⟩; replace BB := bon BB B; clear B))
      go_ret
      exact ⟨rfl, BB⟩

set_option maxRecDepth 100000 in
set_option maxHeartbeats 4000000 in
theorem out_b1_neg_n (A0 A1 A2 : Option Addr) (n0 c0 n1 c1 n2 c2 : Nat) (l0 : List Int) (l1 : List At) (l2 : List Bf) (t i m v : Int) (w : World) (R0 : Rd w w.heap.size .u8 A0 n0 l0) (R1 : RdA w w.heap.size A1 n1 l1) (R2 : RdB w w.heap.size A2 n2 l2) (hn0 : n0 ≤ 9223372036854775807) (hn1 : n1 ≤ 9223372036854775807) (hs : isz t = 1) (hq : i < (n0 : Int) / 1) (hi : i < 0) (hv : vldb l1 = false) :
    Calls Try.prog 8 #[.agg #[.slice A0 n0 c0, .int .i64 t, .int .i64 i, .int .i64 m, .slice A1 n1 c1, .slice A2 n2 c2, .int .i64 v]] w fun e w' => e = .returned (.bool true) ∧ Below w.heap.size w w' := by
  have BB := box_below w #[.slice A0 n0 c0, .int .i64 t, .int .i64 i, .int .i64 m, .slice A1 n1 c1, .slice A2 n2 c2, .int .i64 v] 27
  have a0 := box_cell w #[.slice A0 n0 c0, .int .i64 t, .int .i64 i, .int .i64 m, .slice A1 n1 c1, .slice A2 n2 c2, .int .i64 v] 27 0 _ rfl
  have a1 := box_cell w #[.slice A0 n0 c0, .int .i64 t, .int .i64 i, .int .i64 m, .slice A1 n1 c1, .slice A2 n2 c2, .int .i64 v] 27 1 _ rfl
  have a2 := box_cell w #[.slice A0 n0 c0, .int .i64 t, .int .i64 i, .int .i64 m, .slice A1 n1 c1, .slice A2 n2 c2, .int .i64 v] 27 2 _ rfl
  have a4 := box_cell w #[.slice A0 n0 c0, .int .i64 t, .int .i64 i, .int .i64 m, .slice A1 n1 c1, .slice A2 n2 c2, .int .i64 v] 27 4 _ rfl
  have a6 := box_cell w #[.slice A0 n0 c0, .int .i64 t, .int .i64 i, .int .i64 m, .slice A1 n1 c1, .slice A2 n2 c2, .int .i64 v] 27 6 _ rfl
  have K0 := Lib.hid R0
  have K1 := Lib.hid R1
  have CS := Lib.hid (fun W => of_q (isize_q t W))
  have CI := Lib.hid (fun W R => index_b A0 n0 c0 l0 t i W R hn0)
  have CN := Lib.hid (fun W R => index_b A0 n0 c0 l0 1 i W R hn0)
  have CV := Lib.hid (fun W R => vertex_b A1 none n1 c1 0 0 l1 [] v W R (RdB.nil _ _ _) hn1)
  have CW := Lib.hid (fun W R => valid_b A1 n1 c1 l1 W R hn1)
  have HE : Hid (0 < isz t → (n0 : Int) / isz t ≤ i → idx l0 t i = 0) := Lib.hid fun h0 h1 => idx_end h0 (by rw [R0.len]; exact h1)
  rw [hs] at CS
  rw [Int.ediv_one] at hq
  have gq : IntKind.i64.wrap (n0 : Int) = (n0 : Int) := IntWalk.i64_in _ (by omega)
  have tq : decide ((n0 : Int) ≤ i) = false := decide_eq_false (by omega)
  clear HE hs
  have ti : decide (0 ≤ i) = false := decide_eq_false (by omega)
  have HN : Hid ((if vldb l1 = true then vtx [] v l1 else []).length = 0) := Lib.hid (by rw [hv]; rfl)
  rw [hv] at CW
  obtain ⟨L, hL⟩ : ∃ L, (if vldb l1 = true then vtx [] v l1 else []) = L := ⟨_, rfl⟩
  rw [hL] at CV HN
  clear hL hv
  clear R0 R1 R2
  go_enter Try.func8, Try.ntmps8
  go_wp2_with (first | (go_at_call 17; refine (CS.out _).mono ?_; rintro _ _ ⟨rfl, B⟩; replace BB := bon BB B; replace a0 := cell_below B a0; replace a1 := cell_below B a1; replace a2 := cell_below B a2; replace a4 := cell_below B a4; replace a6 := cell_below B a6))
  have k_a0 := cell_regrown a0
  have k_a1 := cell_regrown a1
  have k_a2 := cell_regrown a2
  have k_a4 := cell_regrown a4
  have k_a6 := cell_regrown a6
  refine wp_region_quiet_below (by kernel_rfl) (by kernel_rfl) ?_
  repeat (first | go_big_quiet_step ((first | fail)) | quiet_step ((first | fail)))
  refine wpQuiet_nil ?_
  intro W hw'
  have B := below_regrown' hw'
  clear hw' k_a0 k_a1 k_a2 k_a4 k_a6
  replace BB := bon BB B
  replace a0 := cell_below B a0
  replace a1 := cell_below B a1
  replace a2 := cell_below B a2
  replace a4 := cell_below B a4
  replace a6 := cell_below B a6
  go_wp2
  have k_a0 := cell_regrown a0
  have k_a1 := cell_regrown a1
  have k_a2 := cell_regrown a2
  have k_a4 := cell_regrown a4
  have k_a6 := cell_regrown a6
  refine wp_region_quiet_below (by kernel_rfl) (by kernel_rfl) ?_
  repeat (first | go_big_quiet_step ((first | fail)) | quiet_step ((first | fail)))
  refine wpQuiet_nil ?_
  intro W hw'
  have B := below_regrown' hw'
  clear hw' k_a0 k_a1 k_a2 k_a4 k_a6
  replace BB := bon BB B
  replace a0 := cell_below B a0
  replace a1 := cell_below B a1
  replace a2 := cell_below B a2
  replace a4 := cell_below B a4
  replace a6 := cell_below B a6
  go_wp2_with (first
    | (go_at_call 12; (with_reducible refine (CV.out _ ((K1.out.below BB).more BB.size)).mono ?_); rintro _ W5 ⟨A5, n5, d5, rfl, _, R5, B⟩; obtain rfl : n5 = 0 := (by have q1 := R5.len; have q2 := HN.out; omega); have K5 := Lib.hid R5; replace BB := bon BB B; replace a4 := cell_below B a4; clear B R5)
    | (go_at_call 21; (with_reducible refine (CW.out _ ((K1.out.below BB).more BB.size)).mono ?_); rintro _ W6 ⟨rfl, B⟩; replace BB := bon BB B; replace a4 := cell_below B a4; replace K5 := Lib.hid (K5.out.on B); clear B)
    | (go_at_call 14; (with_reducible refine (hexample_b _).mono ?_); rintro _ W9 ⟨rfl, B⟩; replace BB := bon BB B; clear B))
  go_ret
  exact ⟨rfl, BB⟩

set_option maxRecDepth 100000 in
set_option maxHeartbeats 4000000 in
theorem out_b1_neg_y (A0 A1 A2 : Option Addr) (n0 c0 n1 c1 n2 c2 : Nat) (l0 : List Int) (l1 : List At) (l2 : List Bf) (t i m v : Int) (w : World) (R0 : Rd w w.heap.size .u8 A0 n0 l0) (R1 : RdA w w.heap.size A1 n1 l1) (R2 : RdB w w.heap.size A2 n2 l2) (hn0 : n0 ≤ 9223372036854775807) (hn1 : n1 ≤ 9223372036854775807) (hs : isz t = 1) (hq : i < (n0 : Int) / 1) (hi : i < 0) (hv : vldb l1 = true) :
    Calls Try.prog 8 #[.agg #[.slice A0 n0 c0, .int .i64 t, .int .i64 i, .int .i64 m, .slice A1 n1 c1, .slice A2 n2 c2, .int .i64 v]] w fun e w' => e = .returned (.bool true) ∧ Below w.heap.size w w' := by
  have BB := box_below w #[.slice A0 n0 c0, .int .i64 t, .int .i64 i, .int .i64 m, .slice A1 n1 c1, .slice A2 n2 c2, .int .i64 v] 27
  have a0 := box_cell w #[.slice A0 n0 c0, .int .i64 t, .int .i64 i, .int .i64 m, .slice A1 n1 c1, .slice A2 n2 c2, .int .i64 v] 27 0 _ rfl
  have a1 := box_cell w #[.slice A0 n0 c0, .int .i64 t, .int .i64 i, .int .i64 m, .slice A1 n1 c1, .slice A2 n2 c2, .int .i64 v] 27 1 _ rfl
  have a2 := box_cell w #[.slice A0 n0 c0, .int .i64 t, .int .i64 i, .int .i64 m, .slice A1 n1 c1, .slice A2 n2 c2, .int .i64 v] 27 2 _ rfl
  have a4 := box_cell w #[.slice A0 n0 c0, .int .i64 t, .int .i64 i, .int .i64 m, .slice A1 n1 c1, .slice A2 n2 c2, .int .i64 v] 27 4 _ rfl
  have a6 := box_cell w #[.slice A0 n0 c0, .int .i64 t, .int .i64 i, .int .i64 m, .slice A1 n1 c1, .slice A2 n2 c2, .int .i64 v] 27 6 _ rfl
  have K0 := Lib.hid R0
  have K1 := Lib.hid R1
  have CS := Lib.hid (fun W => of_q (isize_q t W))
  have CI := Lib.hid (fun W R => index_b A0 n0 c0 l0 t i W R hn0)
  have CN := Lib.hid (fun W R => index_b A0 n0 c0 l0 1 i W R hn0)
  have CV := Lib.hid (fun W R => vertex_b A1 none n1 c1 0 0 l1 [] v W R (RdB.nil _ _ _) hn1)
  have CW := Lib.hid (fun W R => valid_b A1 n1 c1 l1 W R hn1)
  have HE : Hid (0 < isz t → (n0 : Int) / isz t ≤ i → idx l0 t i = 0) := Lib.hid fun h0 h1 => idx_end h0 (by rw [R0.len]; exact h1)
  rw [hs] at CS
  rw [Int.ediv_one] at hq
  have gq : IntKind.i64.wrap (n0 : Int) = (n0 : Int) := IntWalk.i64_in _ (by omega)
  have tq : decide ((n0 : Int) ≤ i) = false := decide_eq_false (by omega)
  clear HE hs
  have ti : decide (0 ≤ i) = false := decide_eq_false (by omega)
  have CC := Lib.hid (fun W R => comps_b A1 n1 c1 l1 W R (by have := (vldb_iff.1 hv).1; have := R1.len; omega))
  have HZ := Lib.hid (vtx_out (v := v) hv)
  rw [hv] at CW
  obtain ⟨L, hL⟩ : ∃ L, (if vldb l1 = true then vtx [] v l1 else []) = L := ⟨_, rfl⟩
  rw [hL] at CV
  rw [if_pos hv] at hL
  replace HZ : Hid (L = List.replicate (csum l1) 0) := Lib.hid (by rw [← hL]; exact HZ.out.1)
  obtain ⟨N, hN⟩ : ∃ N, csum l1 = N := ⟨_, rfl⟩
  rw [hN] at CC HZ
  have hN32 : N ≤ 32 := by rw [← hN]; exact (vtx_out (v := v) hv).2
  have HN : Hid (L.length = N) := Lib.hid (by rw [HZ.out, List.length_replicate])
  clear hL hN hv
  clear R0 R1 R2
  go_enter Try.func8, Try.ntmps8
  go_wp2_with (first | (go_at_call 17; refine (CS.out _).mono ?_; rintro _ _ ⟨rfl, B⟩; replace BB := bon BB B; replace a0 := cell_below B a0; replace a1 := cell_below B a1; replace a2 := cell_below B a2; replace a4 := cell_below B a4; replace a6 := cell_below B a6))
  have k_a0 := cell_regrown a0
  have k_a1 := cell_regrown a1
  have k_a2 := cell_regrown a2
  have k_a4 := cell_regrown a4
  have k_a6 := cell_regrown a6
  refine wp_region_quiet_below (by kernel_rfl) (by kernel_rfl) ?_
  repeat (first | go_big_quiet_step ((first | fail)) | quiet_step ((first | fail)))
  refine wpQuiet_nil ?_
  intro W hw'
  have B := below_regrown' hw'
  clear hw' k_a0 k_a1 k_a2 k_a4 k_a6
  replace BB := bon BB B
  replace a0 := cell_below B a0
  replace a1 := cell_below B a1
  replace a2 := cell_below B a2
  replace a4 := cell_below B a4
  replace a6 := cell_below B a6
  go_wp2
  have k_a0 := cell_regrown a0
  have k_a1 := cell_regrown a1
  have k_a2 := cell_regrown a2
  have k_a4 := cell_regrown a4
  have k_a6 := cell_regrown a6
  refine wp_region_quiet_below (by kernel_rfl) (by kernel_rfl) ?_
  repeat (first | go_big_quiet_step ((first | fail)) | quiet_step ((first | fail)))
  refine wpQuiet_nil ?_
  intro W hw'
  have B := below_regrown' hw'
  clear hw' k_a0 k_a1 k_a2 k_a4 k_a6
  replace BB := bon BB B
  replace a0 := cell_below B a0
  replace a1 := cell_below B a1
  replace a2 := cell_below B a2
  replace a4 := cell_below B a4
  replace a6 := cell_below B a6
  go_wp2_with (first
    | (go_at_call 12; (with_reducible refine (CV.out _ ((K1.out.below BB).more BB.size)).mono ?_); rintro _ W5 ⟨A5, n5, d5, rfl, _, R5, B⟩; obtain rfl : n5 = N := (by have q1 := R5.len; have q2 := HN.out; omega); have K5 := Lib.hid R5; replace BB := bon BB B; replace a4 := cell_below B a4; clear B R5)
    | (go_at_call 21; (with_reducible refine (CW.out _ ((K1.out.below BB).more BB.size)).mono ?_); rintro _ W6 ⟨rfl, B⟩; replace BB := bon BB B; replace a4 := cell_below B a4; replace K5 := Lib.hid (K5.out.on B); clear B)
    | (go_at_call 14; (with_reducible refine (hexample_b _).mono ?_); rintro _ W9 ⟨rfl, B⟩; replace BB := bon BB B; clear B))
  rename World => wv
  have B0 := Below.refl wv.heap.size wv
  go_loopw [5] (fun j wr => ∃ k : Nat, k ≤ n5 ∧ j = .int .i64 (k : Int) ∧ Below wv.heap.size wv wr) (fun j _ => n5 - (intOf j).toNat)
  case atStart => exact ⟨0, by omega, rfl, B0⟩
  case round =>
    clear B0
    obtain ⟨k, hk, rfl, B0⟩ := hrel
    rename World => wr
    by_cases hlt : k < n5
    · obtain ⟨b5, o5, x, rfl, cx, x0, x1, hx⟩ := (K5.out.below B0).int hlt
      obtain rfl : x = 0 := (by have h9 := hx.out; rw [HZ.out] at h9; exact List.eq_of_mem_replicate (List.mem_of_getElem? h9))
      clear hx
      go_wp2
      go_roundw
      case rel => exact ⟨k + 1, by omega, by go_num, B0⟩
      case measure => simp [intOf]; omega
    · obtain rfl : k = n5 := by omega
      replace BB := bon BB B0
      replace a4 := cell_below B0 a4
      clear B0
      go_wp2_with (first
        | (go_at_call 19; (with_reducible refine (CC.out _ ((K1.out.below BB).more BB.size)).mono ?_); rintro _ W7 ⟨rfl, B⟩; replace BB := bon BB B; clear B)
        | (go_at_call 14; (with_reducible refine (hexample_b _).mono ?_); rintro _ W9 ⟨rfl, B⟩; replace BB := bon BB B; clear B))
      go_ret
      exact ⟨rfl, BB⟩

set_option maxRecDepth 100000 in
set_option maxHeartbeats 4000000 in
theorem out_b1_pos_n (A0 A1 A2 : Option Addr) (n0 c0 n1 c1 n2 c2 : Nat) (l0 : List Int) (l1 : List At) (l2 : List Bf) (t i m v : Int) (w : World) (R0 : Rd w w.heap.size .u8 A0 n0 l0) (R1 : RdA w w.heap.size A1 n1 l1) (R2 : RdB w w.heap.size A2 n2 l2) (hn0 : n0 ≤ 9223372036854775807) (hn1 : n1 ≤ 9223372036854775807) (hs : isz t = 1) (hq : i < (n0 : Int) / 1) (hi : 0 ≤ i) (hv : vldb l1 = false) :
    Calls Try.prog 8 #[.agg #[.slice A0 n0 c0, .int .i64 t, .int .i64 i, .int .i64 m, .slice A1 n1 c1, .slice A2 n2 c2, .int .i64 v]] w fun e w' => e = .returned (.bool true) ∧ Below w.heap.size w w' := by
  have BB := box_below w #[.slice A0 n0 c0, .int .i64 t, .int .i64 i, .int .i64 m, .slice A1 n1 c1, .slice A2 n2 c2, .int .i64 v] 27
  have a0 := box_cell w #[.slice A0 n0 c0, .int .i64 t, .int .i64 i, .int .i64 m, .slice A1 n1 c1, .slice A2 n2 c2, .int .i64 v] 27 0 _ rfl
  have a1 := box_cell w #[.slice A0 n0 c0, .int .i64 t, .int .i64 i, .int .i64 m, .slice A1 n1 c1, .slice A2 n2 c2, .int .i64 v] 27 1 _ rfl
  have a2 := box_cell w #[.slice A0 n0 c0, .int .i64 t, .int .i64 i, .int .i64 m, .slice A1 n1 c1, .slice A2 n2 c2, .int .i64 v] 27 2 _ rfl
  have a4 := box_cell w #[.slice A0 n0 c0, .int .i64 t, .int .i64 i, .int .i64 m, .slice A1 n1 c1, .slice A2 n2 c2, .int .i64 v] 27 4 _ rfl
  have a6 := box_cell w #[.slice A0 n0 c0, .int .i64 t, .int .i64 i, .int .i64 m, .slice A1 n1 c1, .slice A2 n2 c2, .int .i64 v] 27 6 _ rfl
  have K0 := Lib.hid R0
  have K1 := Lib.hid R1
  have CS := Lib.hid (fun W => of_q (isize_q t W))
  have CI := Lib.hid (fun W R => index_b A0 n0 c0 l0 t i W R hn0)
  have CN := Lib.hid (fun W R => index_b A0 n0 c0 l0 1 i W R hn0)
  have CV := Lib.hid (fun W R => vertex_b A1 none n1 c1 0 0 l1 [] v W R (RdB.nil _ _ _) hn1)
  have CW := Lib.hid (fun W R => valid_b A1 n1 c1 l1 W R hn1)
  have HE : Hid (0 < isz t → (n0 : Int) / isz t ≤ i → idx l0 t i = 0) := Lib.hid fun h0 h1 => idx_end h0 (by rw [R0.len]; exact h1)
  rw [hs] at CS
  rw [Int.ediv_one] at hq
  have gq : IntKind.i64.wrap (n0 : Int) = (n0 : Int) := IntWalk.i64_in _ (by omega)
  have tq : decide ((n0 : Int) ≤ i) = false := decide_eq_false (by omega)
  clear HE hs
  rw [idx_no l0 hi] at CN
  have ti : decide (0 ≤ i) = true := decide_eq_true hi
  have HN : Hid ((if vldb l1 = true then vtx [] v l1 else []).length = 0) := Lib.hid (by rw [hv]; rfl)
  rw [hv] at CW
  obtain ⟨L, hL⟩ : ∃ L, (if vldb l1 = true then vtx [] v l1 else []) = L := ⟨_, rfl⟩
  rw [hL] at CV HN
  clear hL hv
  clear R0 R1 R2
  go_enter Try.func8, Try.ntmps8
  go_wp2_with (first | (go_at_call 17; refine (CS.out _).mono ?_; rintro _ _ ⟨rfl, B⟩; replace BB := bon BB B; replace a0 := cell_below B a0; replace a1 := cell_below B a1; replace a2 := cell_below B a2; replace a4 := cell_below B a4; replace a6 := cell_below B a6))
  have k_a0 := cell_regrown a0
  have k_a1 := cell_regrown a1
  have k_a2 := cell_regrown a2
  have k_a4 := cell_regrown a4
  have k_a6 := cell_regrown a6
  refine wp_region_quiet_below (by kernel_rfl) (by kernel_rfl) ?_
  repeat (first | go_big_quiet_step ((first | fail)) | quiet_step ((first | fail)))
  refine wpQuiet_nil ?_
  intro W hw'
  have B := below_regrown' hw'
  clear hw' k_a0 k_a1 k_a2 k_a4 k_a6
  replace BB := bon BB B
  replace a0 := cell_below B a0
  replace a1 := cell_below B a1
  replace a2 := cell_below B a2
  replace a4 := cell_below B a4
  replace a6 := cell_below B a6
  go_wp2
  refine wp_region_grow [0, 1, 2, 3, 4, 5, 6, 7, 9, 10, 8, 11, 12] (by kernel_rfl) (by kernel_rfl) ?_
  intro W B
  replace BB := bon BB B
  replace a0 := cell_below B a0
  replace a1 := cell_below B a1
  replace a2 := cell_below B a2
  replace a4 := cell_below B a4
  replace a6 := cell_below B a6
  clear B
  have k_a0 := cell_regrown a0
  have k_a1 := cell_regrown a1
  have k_a2 := cell_regrown a2
  have k_a4 := cell_regrown a4
  have k_a6 := cell_regrown a6
  refine grow_read rfl rfl ?_
  (first | go_big_quiet_step (fail) | quiet_step (fail))
  refine wpQuiet_nil ?_
  refine grow_read rfl rfl ?_
  (first | go_big_quiet_step (fail) | quiet_step (fail))
  refine wpQuiet_nil ?_
  refine grow_read rfl rfl ?_
  (first | go_big_quiet_step (fail) | quiet_step (fail))
  refine wpQuiet_nil ?_
  refine grow_read rfl rfl ?_
  (first | go_big_quiet_step (fail) | quiet_step (fail))
  refine wpQuiet_nil ?_
  refine grow_read rfl rfl ?_
  (first | go_big_quiet_step (fail) | quiet_step (fail))
  refine wpQuiet_nil ?_
  refine grow_read rfl rfl ?_
  (first | go_big_quiet_step (fail) | quiet_step (fail))
  refine wpQuiet_nil ?_
  refine grow_read rfl rfl ?_
  (first | go_big_quiet_step (fail) | quiet_step (fail))
  refine wpQuiet_nil ?_
  refine grow_read rfl rfl ?_
  (first | go_big_quiet_step (fail) | quiet_step (fail))
  refine wpQuiet_nil ?_
  refine grow_read rfl rfl ?_
  (first | go_big_quiet_step (fail) | quiet_step (fail))
  refine wpQuiet_nil ?_
  refine grow_read rfl rfl ?_
  (first | go_big_quiet_step (fail) | quiet_step (fail))
  refine wpQuiet_nil ?_
  clear k_a0 k_a1 k_a2 k_a4 k_a6
  refine grow_call rfl rfl ?_
  go_wp2_with (go_at_call 9; refine (CN.out _ ((K0.out.below BB).more BB.size)).mono ?_; rintro _ _ ⟨rfl, B⟩; replace BB := bon BB B; replace a0 := cell_below B a0; replace a1 := cell_below B a1; replace a2 := cell_below B a2; replace a4 := cell_below B a4; replace a6 := cell_below B a6)
  refine ⟨Grows.of B, ?_⟩
  clear B
  have k_a0 := cell_regrown a0
  have k_a1 := cell_regrown a1
  have k_a2 := cell_regrown a2
  have k_a4 := cell_regrown a4
  have k_a6 := cell_regrown a6
  refine grow_read rfl rfl ?_
  (first | go_big_quiet_step (fail) | quiet_step (fail))
  refine wpQuiet_nil ?_
  refine grow_read rfl rfl ?_
  (first | go_big_quiet_step (fail) | quiet_step (fail))
  refine wpQuiet_nil ?_
  clear k_a0 k_a1 k_a2 k_a4 k_a6
  refine grow_nil ?_
  go_wp2_with (first
    | (go_at_call 12; (with_reducible refine (CV.out _ ((K1.out.below BB).more BB.size)).mono ?_); rintro _ W5 ⟨A5, n5, d5, rfl, _, R5, B⟩; obtain rfl : n5 = 0 := (by have q1 := R5.len; have q2 := HN.out; omega); have K5 := Lib.hid R5; replace BB := bon BB B; replace a4 := cell_below B a4; clear B R5)
    | (go_at_call 21; (with_reducible refine (CW.out _ ((K1.out.below BB).more BB.size)).mono ?_); rintro _ W6 ⟨rfl, B⟩; replace BB := bon BB B; replace a4 := cell_below B a4; replace K5 := Lib.hid (K5.out.on B); clear B)
    | (go_at_call 14; (with_reducible refine (hexample_b _).mono ?_); rintro _ W9 ⟨rfl, B⟩; replace BB := bon BB B; clear B))
  go_ret
  exact ⟨rfl, BB⟩

set_option maxRecDepth 100000 in
set_option maxHeartbeats 4000000 in
theorem out_b1_pos_y (A0 A1 A2 : Option Addr) (n0 c0 n1 c1 n2 c2 : Nat) (l0 : List Int) (l1 : List At) (l2 : List Bf) (t i m v : Int) (w : World) (R0 : Rd w w.heap.size .u8 A0 n0 l0) (R1 : RdA w w.heap.size A1 n1 l1) (R2 : RdB w w.heap.size A2 n2 l2) (hn0 : n0 ≤ 9223372036854775807) (hn1 : n1 ≤ 9223372036854775807) (hs : isz t = 1) (hq : i < (n0 : Int) / 1) (hi : 0 ≤ i) (hv : vldb l1 = true) :
    Calls Try.prog 8 #[.agg #[.slice A0 n0 c0, .int .i64 t, .int .i64 i, .int .i64 m, .slice A1 n1 c1, .slice A2 n2 c2, .int .i64 v]] w fun e w' => e = .returned (.bool true) ∧ Below w.heap.size w w' := by
  have BB := box_below w #[.slice A0 n0 c0, .int .i64 t, .int .i64 i, .int .i64 m, .slice A1 n1 c1, .slice A2 n2 c2, .int .i64 v] 27
  have a0 := box_cell w #[.slice A0 n0 c0, .int .i64 t, .int .i64 i, .int .i64 m, .slice A1 n1 c1, .slice A2 n2 c2, .int .i64 v] 27 0 _ rfl
  have a1 := box_cell w #[.slice A0 n0 c0, .int .i64 t, .int .i64 i, .int .i64 m, .slice A1 n1 c1, .slice A2 n2 c2, .int .i64 v] 27 1 _ rfl
  have a2 := box_cell w #[.slice A0 n0 c0, .int .i64 t, .int .i64 i, .int .i64 m, .slice A1 n1 c1, .slice A2 n2 c2, .int .i64 v] 27 2 _ rfl
  have a4 := box_cell w #[.slice A0 n0 c0, .int .i64 t, .int .i64 i, .int .i64 m, .slice A1 n1 c1, .slice A2 n2 c2, .int .i64 v] 27 4 _ rfl
  have a6 := box_cell w #[.slice A0 n0 c0, .int .i64 t, .int .i64 i, .int .i64 m, .slice A1 n1 c1, .slice A2 n2 c2, .int .i64 v] 27 6 _ rfl
  have K0 := Lib.hid R0
  have K1 := Lib.hid R1
  have CS := Lib.hid (fun W => of_q (isize_q t W))
  have CI := Lib.hid (fun W R => index_b A0 n0 c0 l0 t i W R hn0)
  have CN := Lib.hid (fun W R => index_b A0 n0 c0 l0 1 i W R hn0)
  have CV := Lib.hid (fun W R => vertex_b A1 none n1 c1 0 0 l1 [] v W R (RdB.nil _ _ _) hn1)
  have CW := Lib.hid (fun W R => valid_b A1 n1 c1 l1 W R hn1)
  have HE : Hid (0 < isz t → (n0 : Int) / isz t ≤ i → idx l0 t i = 0) := Lib.hid fun h0 h1 => idx_end h0 (by rw [R0.len]; exact h1)
  rw [hs] at CS
  rw [Int.ediv_one] at hq
  have gq : IntKind.i64.wrap (n0 : Int) = (n0 : Int) := IntWalk.i64_in _ (by omega)
  have tq : decide ((n0 : Int) ≤ i) = false := decide_eq_false (by omega)
  clear HE hs
  rw [idx_no l0 hi] at CN
  have ti : decide (0 ≤ i) = true := decide_eq_true hi
  have CC := Lib.hid (fun W R => comps_b A1 n1 c1 l1 W R (by have := (vldb_iff.1 hv).1; have := R1.len; omega))
  have HZ := Lib.hid (vtx_out (v := v) hv)
  rw [hv] at CW
  obtain ⟨L, hL⟩ : ∃ L, (if vldb l1 = true then vtx [] v l1 else []) = L := ⟨_, rfl⟩
  rw [hL] at CV
  rw [if_pos hv] at hL
  replace HZ : Hid (L = List.replicate (csum l1) 0) := Lib.hid (by rw [← hL]; exact HZ.out.1)
  obtain ⟨N, hN⟩ : ∃ N, csum l1 = N := ⟨_, rfl⟩
  rw [hN] at CC HZ
  have hN32 : N ≤ 32 := by rw [← hN]; exact (vtx_out (v := v) hv).2
  have HN : Hid (L.length = N) := Lib.hid (by rw [HZ.out, List.length_replicate])
  clear hL hN hv
  clear R0 R1 R2
  go_enter Try.func8, Try.ntmps8
  go_wp2_with (first | (go_at_call 17; refine (CS.out _).mono ?_; rintro _ _ ⟨rfl, B⟩; replace BB := bon BB B; replace a0 := cell_below B a0; replace a1 := cell_below B a1; replace a2 := cell_below B a2; replace a4 := cell_below B a4; replace a6 := cell_below B a6))
  have k_a0 := cell_regrown a0
  have k_a1 := cell_regrown a1
  have k_a2 := cell_regrown a2
  have k_a4 := cell_regrown a4
  have k_a6 := cell_regrown a6
  refine wp_region_quiet_below (by kernel_rfl) (by kernel_rfl) ?_
  repeat (first | go_big_quiet_step ((first | fail)) | quiet_step ((first | fail)))
  refine wpQuiet_nil ?_
  intro W hw'
  have B := below_regrown' hw'
  clear hw' k_a0 k_a1 k_a2 k_a4 k_a6
  replace BB := bon BB B
  replace a0 := cell_below B a0
  replace a1 := cell_below B a1
  replace a2 := cell_below B a2
  replace a4 := cell_below B a4
  replace a6 := cell_below B a6
  go_wp2
  refine wp_region_grow [0, 1, 2, 3, 4, 5, 6, 7, 9, 10, 8, 11, 12] (by kernel_rfl) (by kernel_rfl) ?_
  intro W B
  replace BB := bon BB B
  replace a0 := cell_below B a0
  replace a1 := cell_below B a1
  replace a2 := cell_below B a2
  replace a4 := cell_below B a4
  replace a6 := cell_below B a6
  clear B
  have k_a0 := cell_regrown a0
  have k_a1 := cell_regrown a1
  have k_a2 := cell_regrown a2
  have k_a4 := cell_regrown a4
  have k_a6 := cell_regrown a6
  refine grow_read rfl rfl ?_
  (first | go_big_quiet_step (fail) | quiet_step (fail))
  refine wpQuiet_nil ?_
  refine grow_read rfl rfl ?_
  (first | go_big_quiet_step (fail) | quiet_step (fail))
  refine wpQuiet_nil ?_
  refine grow_read rfl rfl ?_
  (first | go_big_quiet_step (fail) | quiet_step (fail))
  refine wpQuiet_nil ?_
  refine grow_read rfl rfl ?_
  (first | go_big_quiet_step (fail) | quiet_step (fail))
  refine wpQuiet_nil ?_
  refine grow_read rfl rfl ?_
  (first | go_big_quiet_step (fail) | quiet_step (fail))
  refine wpQuiet_nil ?_
  refine grow_read rfl rfl ?_
  (first | go_big_quiet_step (fail) | quiet_step (fail))
  refine wpQuiet_nil ?_
  refine grow_read rfl rfl ?_
  (first | go_big_quiet_step (fail) | quiet_step (fail))
  refine wpQuiet_nil ?_
  refine grow_read rfl rfl ?_
  (first | go_big_quiet_step (fail) | quiet_step (fail))
  refine wpQuiet_nil ?_
  refine grow_read rfl rfl ?_
  (first | go_big_quiet_step (fail) | quiet_step (fail))
  refine wpQuiet_nil ?_
  refine grow_read rfl rfl ?_
  (first | go_big_quiet_step (fail) | quiet_step (fail))
  refine wpQuiet_nil ?_
  clear k_a0 k_a1 k_a2 k_a4 k_a6
  refine grow_call rfl rfl ?_
  go_wp2_with (go_at_call 9; refine (CN.out _ ((K0.out.below BB).more BB.size)).mono ?_; rintro _ _ ⟨rfl, B⟩; replace BB := bon BB B; replace a0 := cell_below B a0; replace a1 := cell_below B a1; replace a2 := cell_below B a2; replace a4 := cell_below B a4; replace a6 := cell_below B a6)
  refine ⟨Grows.of B, ?_⟩
  clear B
  have k_a0 := cell_regrown a0
  have k_a1 := cell_regrown a1
  have k_a2 := cell_regrown a2
  have k_a4 := cell_regrown a4
  have k_a6 := cell_regrown a6
  refine grow_read rfl rfl ?_
  (first | go_big_quiet_step (fail) | quiet_step (fail))
  refine wpQuiet_nil ?_
  refine grow_read rfl rfl ?_
  (first | go_big_quiet_step (fail) | quiet_step (fail))
  refine wpQuiet_nil ?_
  clear k_a0 k_a1 k_a2 k_a4 k_a6
  refine grow_nil ?_
  go_wp2_with (first
    | (go_at_call 12; (with_reducible refine (CV.out _ ((K1.out.below BB).more BB.size)).mono ?_); rintro _ W5 ⟨A5, n5, d5, rfl, _, R5, B⟩; obtain rfl : n5 = N := (by have q1 := R5.len; have q2 := HN.out; omega); have K5 := Lib.hid R5; replace BB := bon BB B; replace a4 := cell_below B a4; clear B R5)
    | (go_at_call 21; (with_reducible refine (CW.out _ ((K1.out.below BB).more BB.size)).mono ?_); rintro _ W6 ⟨rfl, B⟩; replace BB := bon BB B; replace a4 := cell_below B a4; replace K5 := Lib.hid (K5.out.on B); clear B)
    | (go_at_call 14; (with_reducible refine (hexample_b _).mono ?_); rintro _ W9 ⟨rfl, B⟩; replace BB := bon BB B; clear B))
  rename World => wv
  have B0 := Below.refl wv.heap.size wv
  go_loopw [5] (fun j wr => ∃ k : Nat, k ≤ n5 ∧ j = .int .i64 (k : Int) ∧ Below wv.heap.size wv wr) (fun j _ => n5 - (intOf j).toNat)
  case atStart => exact ⟨0, by omega, rfl, B0⟩
  case round =>
    clear B0
    obtain ⟨k, hk, rfl, B0⟩ := hrel
    rename World => wr
    by_cases hlt : k < n5
    · obtain ⟨b5, o5, x, rfl, cx, x0, x1, hx⟩ := (K5.out.below B0).int hlt
      obtain rfl : x = 0 := (by have h9 := hx.out; rw [HZ.out] at h9; exact List.eq_of_mem_replicate (List.mem_of_getElem? h9))
      clear hx
      go_wp2
      go_roundw
      case rel => exact ⟨k + 1, by omega, by go_num, B0⟩
      case measure => simp [intOf]; omega
    · obtain rfl : k = n5 := by omega
      replace BB := bon BB B0
      replace a4 := cell_below B0 a4
      clear B0
      go_wp2_with (first
        | (go_at_call 19; (with_reducible refine (CC.out _ ((K1.out.below BB).more BB.size)).mono ?_); rintro _ W7 ⟨rfl, B⟩; replace BB := bon BB B; clear B)
        | (go_at_call 14; (with_reducible refine (hexample_b _).mono ?_); rintro _ W9 ⟨rfl, B⟩; replace BB := bon BB B; clear B))
      go_ret
      exact ⟨rfl, BB⟩

set_option maxRecDepth 100000 in
set_option maxHeartbeats 4000000 in
theorem out_c1_pos_n (A0 A1 A2 : Option Addr) (n0 c0 n1 c1 n2 c2 : Nat) (l0 : List Int) (l1 : List At) (l2 : List Bf) (t i m v : Int) (w : World) (R0 : Rd w w.heap.size .u8 A0 n0 l0) (R1 : RdA w w.heap.size A1 n1 l1) (R2 : RdB w w.heap.size A2 n2 l2) (hn0 : n0 ≤ 9223372036854775807) (hn1 : n1 ≤ 9223372036854775807) (hs : isz t = 1) (hq : (n0 : Int) / 1 ≤ i) (hi : 0 ≤ i) (hv : vldb l1 = false) :
    Calls Try.prog 8 #[.agg #[.slice A0 n0 c0, .int .i64 t, .int .i64 i, .int .i64 m, .slice A1 n1 c1, .slice A2 n2 c2, .int .i64 v]] w fun e w' => e = .returned (.bool true) ∧ Below w.heap.size w w' := by
  have BB := box_below w #[.slice A0 n0 c0, .int .i64 t, .int .i64 i, .int .i64 m, .slice A1 n1 c1, .slice A2 n2 c2, .int .i64 v] 27
  have a0 := box_cell w #[.slice A0 n0 c0, .int .i64 t, .int .i64 i, .int .i64 m, .slice A1 n1 c1, .slice A2 n2 c2, .int .i64 v] 27 0 _ rfl
  have a1 := box_cell w #[.slice A0 n0 c0, .int .i64 t, .int .i64 i, .int .i64 m, .slice A1 n1 c1, .slice A2 n2 c2, .int .i64 v] 27 1 _ rfl
  have a2 := box_cell w #[.slice A0 n0 c0, .int .i64 t, .int .i64 i, .int .i64 m, .slice A1 n1 c1, .slice A2 n2 c2, .int .i64 v] 27 2 _ rfl
  have a4 := box_cell w #[.slice A0 n0 c0, .int .i64 t, .int .i64 i, .int .i64 m, .slice A1 n1 c1, .slice A2 n2 c2, .int .i64 v] 27 4 _ rfl
  have a6 := box_cell w #[.slice A0 n0 c0, .int .i64 t, .int .i64 i, .int .i64 m, .slice A1 n1 c1, .slice A2 n2 c2, .int .i64 v] 27 6 _ rfl
  have K0 := Lib.hid R0
  have K1 := Lib.hid R1
  have CS := Lib.hid (fun W => of_q (isize_q t W))
  have CI := Lib.hid (fun W R => index_b A0 n0 c0 l0 t i W R hn0)
  have CN := Lib.hid (fun W R => index_b A0 n0 c0 l0 1 i W R hn0)
  have CV := Lib.hid (fun W R => vertex_b A1 none n1 c1 0 0 l1 [] v W R (RdB.nil _ _ _) hn1)
  have CW := Lib.hid (fun W R => valid_b A1 n1 c1 l1 W R hn1)
  have HE : Hid (0 < isz t → (n0 : Int) / isz t ≤ i → idx l0 t i = 0) := Lib.hid fun h0 h1 => idx_end h0 (by rw [R0.len]; exact h1)
  have hz := HE.out (by rw [hs]; decide) (by rw [hs]; exact hq)
  rw [hs] at CS
  rw [hz] at CI
  rw [Int.ediv_one] at hq
  have gq : IntKind.i64.wrap (n0 : Int) = (n0 : Int) := IntWalk.i64_in _ (by omega)
  have tq : decide ((n0 : Int) ≤ i) = true := decide_eq_true (by omega)
  clear HE hs hz
  rw [idx_no l0 hi] at CN
  have ti : decide (0 ≤ i) = true := decide_eq_true hi
  have HN : Hid ((if vldb l1 = true then vtx [] v l1 else []).length = 0) := Lib.hid (by rw [hv]; rfl)
  rw [hv] at CW
  obtain ⟨L, hL⟩ : ∃ L, (if vldb l1 = true then vtx [] v l1 else []) = L := ⟨_, rfl⟩
  rw [hL] at CV HN
  clear hL hv
  clear R0 R1 R2
  go_enter Try.func8, Try.ntmps8
  go_wp2_with (first | (go_at_call 17; refine (CS.out _).mono ?_; rintro _ _ ⟨rfl, B⟩; replace BB := bon BB B; replace a0 := cell_below B a0; replace a1 := cell_below B a1; replace a2 := cell_below B a2; replace a4 := cell_below B a4; replace a6 := cell_below B a6))
  refine wp_region_grow [0, 1, 2, 3, 4, 5, 6, 7, 8, 9, 10, 11, 12, 13, 14, 15, 16, 17, 18, 19, 20, 21] (by kernel_rfl) (by kernel_rfl) ?_
  intro W B
  replace BB := bon BB B
  replace a0 := cell_below B a0
  replace a1 := cell_below B a1
  replace a2 := cell_below B a2
  replace a4 := cell_below B a4
  replace a6 := cell_below B a6
  clear B
  have k_a0 := cell_regrown a0
  have k_a1 := cell_regrown a1
  have k_a2 := cell_regrown a2
  have k_a4 := cell_regrown a4
  have k_a6 := cell_regrown a6
  refine grow_read rfl rfl ?_
  (first | go_big_quiet_step (fail) | quiet_step (fail))
  refine wpQuiet_nil ?_
  refine grow_read rfl rfl ?_
  (first | go_big_quiet_step (fail) | quiet_step (fail))
  refine wpQuiet_nil ?_
  refine grow_read rfl rfl ?_
  (first | go_big_quiet_step (fail) | quiet_step (fail))
  refine wpQuiet_nil ?_
  refine grow_read rfl rfl ?_
  (first | go_big_quiet_step (fail) | quiet_step (fail))
  refine wpQuiet_nil ?_
  refine grow_read rfl rfl ?_
  (first | go_big_quiet_step (fail) | quiet_step (fail))
  refine wpQuiet_nil ?_
  refine grow_read rfl rfl ?_
  (first | go_big_quiet_step (fail) | quiet_step (fail))
  refine wpQuiet_nil ?_
  refine grow_read rfl rfl ?_
  (first | go_big_quiet_step (fail) | quiet_step (fail))
  refine wpQuiet_nil ?_
  refine grow_read rfl rfl ?_
  (first | go_big_quiet_step (fail) | quiet_step (fail))
  refine wpQuiet_nil ?_
  refine grow_read rfl rfl ?_
  (first | go_big_quiet_step (fail) | quiet_step (fail))
  refine wpQuiet_nil ?_
  refine grow_read rfl rfl ?_
  (first | go_big_quiet_step (fail) | quiet_step (fail))
  refine wpQuiet_nil ?_
  refine grow_read rfl rfl ?_
  (first | go_big_quiet_step (fail) | quiet_step (fail))
  refine wpQuiet_nil ?_
  refine grow_read rfl rfl ?_
  (first | go_big_quiet_step (fail) | quiet_step (fail))
  refine wpQuiet_nil ?_
  refine grow_read rfl rfl ?_
  (first | go_big_quiet_step (fail) | quiet_step (fail))
  refine wpQuiet_nil ?_
  refine grow_read rfl rfl ?_
  (first | go_big_quiet_step (fail) | quiet_step (fail))
  refine wpQuiet_nil ?_
  refine grow_read rfl rfl ?_
  (first | go_big_quiet_step (fail) | quiet_step (fail))
  refine wpQuiet_nil ?_
  refine grow_read rfl rfl ?_
  (first | go_big_quiet_step (fail) | quiet_step (fail))
  refine wpQuiet_nil ?_
  refine grow_read rfl rfl ?_
  (first | go_big_quiet_step (fail) | quiet_step (fail))
  refine wpQuiet_nil ?_
  refine grow_read rfl rfl ?_
  (first | go_big_quiet_step (fail) | quiet_step (fail))
  refine wpQuiet_nil ?_
  refine grow_read rfl rfl ?_
  (first | go_big_quiet_step (fail) | quiet_step (fail))
  refine wpQuiet_nil ?_
  clear k_a0 k_a1 k_a2 k_a4 k_a6
  refine grow_call rfl rfl ?_
  go_wp2_with (go_at_call 9; refine (CI.out _ ((K0.out.below BB).more BB.size)).mono ?_; rintro _ _ ⟨rfl, B⟩; replace BB := bon BB B; replace a0 := cell_below B a0; replace a1 := cell_below B a1; replace a2 := cell_below B a2; replace a4 := cell_below B a4; replace a6 := cell_below B a6)
  refine ⟨Grows.of B, ?_⟩
  clear B
  have k_a0 := cell_regrown a0
  have k_a1 := cell_regrown a1
  have k_a2 := cell_regrown a2
  have k_a4 := cell_regrown a4
  have k_a6 := cell_regrown a6
  refine grow_read rfl rfl ?_
  (first | go_big_quiet_step (fail) | quiet_step (fail))
  refine wpQuiet_nil ?_
  refine grow_read rfl rfl ?_
  (first | go_big_quiet_step (fail) | quiet_step (fail))
  refine wpQuiet_nil ?_
  clear k_a0 k_a1 k_a2 k_a4 k_a6
  refine grow_nil ?_
  go_wp2
  refine wp_region_grow [0, 1, 2, 3, 4, 5, 6, 7, 9, 10, 8, 11, 12] (by kernel_rfl) (by kernel_rfl) ?_
  intro W B
  replace BB := bon BB B
  replace a0 := cell_below B a0
  replace a1 := cell_below B a1
  replace a2 := cell_below B a2
  replace a4 := cell_below B a4
  replace a6 := cell_below B a6
  clear B
  have k_a0 := cell_regrown a0
  have k_a1 := cell_regrown a1
  have k_a2 := cell_regrown a2
  have k_a4 := cell_regrown a4
  have k_a6 := cell_regrown a6
  refine grow_read rfl rfl ?_
  (first | go_big_quiet_step (fail) | quiet_step (fail))
  refine wpQuiet_nil ?_
  refine grow_read rfl rfl ?_
  (first | go_big_quiet_step (fail) | quiet_step (fail))
  refine wpQuiet_nil ?_
  refine grow_read rfl rfl ?_
  (first | go_big_quiet_step (fail) | quiet_step (fail))
  refine wpQuiet_nil ?_
  refine grow_read rfl rfl ?_
  (first | go_big_quiet_step (fail) | quiet_step (fail))
  refine wpQuiet_nil ?_
  refine grow_read rfl rfl ?_
  (first | go_big_quiet_step (fail) | quiet_step (fail))
  refine wpQuiet_nil ?_
  refine grow_read rfl rfl ?_
  (first | go_big_quiet_step (fail) | quiet_step (fail))
  refine wpQuiet_nil ?_
  refine grow_read rfl rfl ?_
  (first | go_big_quiet_step (fail) | quiet_step (fail))
  refine wpQuiet_nil ?_
  refine grow_read rfl rfl ?_
  (first | go_big_quiet_step (fail) | quiet_step (fail))
  refine wpQuiet_nil ?_
  refine grow_read rfl rfl ?_
  (first | go_big_quiet_step (fail) | quiet_step (fail))
  refine wpQuiet_nil ?_
  refine grow_read rfl rfl ?_
  (first | go_big_quiet_step (fail) | quiet_step (fail))
  refine wpQuiet_nil ?_
  clear k_a0 k_a1 k_a2 k_a4 k_a6
  refine grow_call rfl rfl ?_
  go_wp2_with (go_at_call 9; refine (CN.out _ ((K0.out.below BB).more BB.size)).mono ?_; rintro _ _ ⟨rfl, B⟩; replace BB := bon BB B; replace a0 := cell_below B a0; replace a1 := cell_below B a1; replace a2 := cell_below B a2; replace a4 := cell_below B a4; replace a6 := cell_below B a6)
  refine ⟨Grows.of B, ?_⟩
  clear B
  have k_a0 := cell_regrown a0
  have k_a1 := cell_regrown a1
  have k_a2 := cell_regrown a2
  have k_a4 := cell_regrown a4
  have k_a6 := cell_regrown a6
  refine grow_read rfl rfl ?_
  (first | go_big_quiet_step (fail) | quiet_step (fail))
  refine wpQuiet_nil ?_
  refine grow_read rfl rfl ?_
  (first | go_big_quiet_step (fail) | quiet_step (fail))
  refine wpQuiet_nil ?_
  clear k_a0 k_a1 k_a2 k_a4 k_a6
  refine grow_nil ?_
  go_wp2_with (first
    | (go_at_call 12; (with_reducible refine (CV.out _ ((K1.out.below BB).more BB.size)).mono ?_); rintro _ W5 ⟨A5, n5, d5, rfl, _, R5, B⟩; obtain rfl : n5 = 0 := (by have q1 := R5.len; have q2 := HN.out; omega); have K5 := Lib.hid R5; replace BB := bon BB B; replace a4 := cell_below B a4; clear B R5)
    | (go_at_call 21; (with_reducible refine (CW.out _ ((K1.out.below BB).more BB.size)).mono ?_); rintro _ W6 ⟨rfl, B⟩; replace BB := bon BB B; replace a4 := cell_below B a4; replace K5 := Lib.hid (K5.out.on B); clear B)
    | (go_at_call 14; (with_reducible refine (hexample_b _).mono ?_); rintro _ W9 ⟨rfl, B⟩; replace BB := bon BB B; clear B))
  go_ret
  exact ⟨rfl, BB⟩

set_option maxRecDepth 100000 in
set_option maxHeartbeats 4000000 in
theorem out_c1_pos_y (A0 A1 A2 : Option Addr) (n0 c0 n1 c1 n2 c2 : Nat) (l0 : List Int) (l1 : List At) (l2 : List Bf) (t i m v : Int) (w : World) (R0 : Rd w w.heap.size .u8 A0 n0 l0) (R1 : RdA w w.heap.size A1 n1 l1) (R2 : RdB w w.heap.size A2 n2 l2) (hn0 : n0 ≤ 9223372036854775807) (hn1 : n1 ≤ 9223372036854775807) (hs : isz t = 1) (hq : (n0 : Int) / 1 ≤ i) (hi : 0 ≤ i) (hv : vldb l1 = true) :
    Calls Try.prog 8 #[.agg #[.slice A0 n0 c0, .int .i64 t, .int .i64 i, .int .i64 m, .slice A1 n1 c1, .slice A2 n2 c2, .int .i64 v]] w fun e w' => e = .returned (.bool true) ∧ Below w.heap.size w w' := by
  have BB := box_below w #[.slice A0 n0 c0, .int .i64 t, .int .i64 i, .int .i64 m, .slice A1 n1 c1, .slice A2 n2 c2, .int .i64 v] 27
  have a0 := box_cell w #[.slice A0 n0 c0, .int .i64 t, .int .i64 i, .int .i64 m, .slice A1 n1 c1, .slice A2 n2 c2, .int .i64 v] 27 0 _ rfl
  have a1 := box_cell w #[.slice A0 n0 c0, .int .i64 t, .int .i64 i, .int .i64 m, .slice A1 n1 c1, .slice A2 n2 c2, .int .i64 v] 27 1 _ rfl
  have a2 := box_cell w #[.slice A0 n0 c0, .int .i64 t, .int .i64 i, .int .i64 m, .slice A1 n1 c1, .slice A2 n2 c2, .int .i64 v] 27 2 _ rfl
  have a4 := box_cell w #[.slice A0 n0 c0, .int .i64 t, .int .i64 i, .int .i64 m, .slice A1 n1 c1, .slice A2 n2 c2, .int .i64 v] 27 4 _ rfl
  have a6 := box_cell w #[.slice A0 n0 c0, .int .i64 t, .int .i64 i, .int .i64 m, .slice A1 n1 c1, .slice A2 n2 c2, .int .i64 v] 27 6 _ rfl
  have K0 := Lib.hid R0
  have K1 := Lib.hid R1
  have CS := Lib.hid (fun W => of_q (isize_q t W))
  have CI := Lib.hid (fun W R => index_b A0 n0 c0 l0 t i W R hn0)
  have CN := Lib.hid (fun W R => index_b A0 n0 c0 l0 1 i W R hn0)
  have CV := Lib.hid (fun W R => vertex_b A1 none n1 c1 0 0 l1 [] v W R (RdB.nil _ _ _) hn1)
  have CW := Lib.hid (fun W R => valid_b A1 n1 c1 l1 W R hn1)
  have HE : Hid (0 < isz t → (n0 : Int) / isz t ≤ i → idx l0 t i = 0) := Lib.hid fun h0 h1 => idx_end h0 (by rw [R0.len]; exact h1)
  have hz := HE.out (by rw [hs]; decide) (by rw [hs]; exact hq)
  rw [hs] at CS
  rw [hz] at CI
  rw [Int.ediv_one] at hq
  have gq : IntKind.i64.wrap (n0 : Int) = (n0 : Int) := IntWalk.i64_in _ (by omega)
  have tq : decide ((n0 : Int) ≤ i) = true := decide_eq_true (by omega)
  clear HE hs hz
  rw [idx_no l0 hi] at CN
  have ti : decide (0 ≤ i) = true := decide_eq_true hi
  have CC := Lib.hid (fun W R => comps_b A1 n1 c1 l1 W R (by have := (vldb_iff.1 hv).1; have := R1.len; omega))
  have HZ := Lib.hid (vtx_out (v := v) hv)
  rw [hv] at CW
  obtain ⟨L, hL⟩ : ∃ L, (if vldb l1 = true then vtx [] v l1 else []) = L := ⟨_, rfl⟩
  rw [hL] at CV
  rw [if_pos hv] at hL
  replace HZ : Hid (L = List.replicate (csum l1) 0) := Lib.hid (by rw [← hL]; exact HZ.out.1)
  obtain ⟨N, hN⟩ : ∃ N, csum l1 = N := ⟨_, rfl⟩
  rw [hN] at CC HZ
  have hN32 : N ≤ 32 := by rw [← hN]; exact (vtx_out (v := v) hv).2
  have HN : Hid (L.length = N) := Lib.hid (by rw [HZ.out, List.length_replicate])
  clear hL hN hv
  clear R0 R1 R2
  go_enter Try.func8, Try.ntmps8
  go_wp2_with (first | (go_at_call 17; refine (CS.out _).mono ?_; rintro _ _ ⟨rfl, B⟩; replace BB := bon BB B; replace a0 := cell_below B a0; replace a1 := cell_below B a1; replace a2 := cell_below B a2; replace a4 := cell_below B a4; replace a6 := cell_below B a6))
  refine wp_region_grow [0, 1, 2, 3, 4, 5, 6, 7, 8, 9, 10, 11, 12, 13, 14, 15, 16, 17, 18, 19, 20, 21] (by kernel_rfl) (by kernel_rfl) ?_
  intro W B
  replace BB := bon BB B
  replace a0 := cell_below B a0
  replace a1 := cell_below B a1
  replace a2 := cell_below B a2
  replace a4 := cell_below B a4
  replace a6 := cell_below B a6
  clear B
  have k_a0 := cell_regrown a0
  have k_a1 := cell_regrown a1
  have k_a2 := cell_regrown a2
  have k_a4 := cell_regrown a4
  have k_a6 := cell_regrown a6
  refine grow_read rfl rfl ?_
  (first | go_big_quiet_step (fail) | quiet_step (fail))
  refine wpQuiet_nil ?_
  refine grow_read rfl rfl ?_
  (first | go_big_quiet_step (fail) | quiet_step (fail))
  refine wpQuiet_nil ?_
  refine grow_read rfl rfl ?_
  (first | go_big_quiet_step (fail) | quiet_step (fail))
  refine wpQuiet_nil ?_
  refine grow_read rfl rfl ?_
  (first | go_big_quiet_step (fail) | quiet_step (fail))
  refine wpQuiet_nil ?_
  refine grow_read rfl rfl ?_
  (first | go_big_quiet_step (fail) | quiet_step (fail))
  refine wpQuiet_nil ?_
  refine grow_read rfl rfl ?_
  (first | go_big_quiet_step (fail) | quiet_step (fail))
  refine wpQuiet_nil ?_
  refine grow_read rfl rfl ?_
  (first | go_big_quiet_step (fail) | quiet_step (fail))
  refine wpQuiet_nil ?_
  refine grow_read rfl rfl ?_
  (first | go_big_quiet_step (fail) | quiet_step (fail))
  refine wpQuiet_nil ?_
  refine grow_read rfl rfl ?_
  (first | go_big_quiet_step (fail) | quiet_step (fail))
  refine wpQuiet_nil ?_
  refine grow_read rfl rfl ?_
  (first | go_big_quiet_step (fail) | quiet_step (fail))
  refine wpQuiet_nil ?_
  refine grow_read rfl rfl ?_
  (first | go_big_quiet_step (fail) | quiet_step (fail))
  refine wpQuiet_nil ?_
  refine grow_read rfl rfl ?_
  (first | go_big_quiet_step (fail) | quiet_step (fail))
  refine wpQuiet_nil ?_
  refine grow_read rfl rfl ?_
  (first | go_big_quiet_step (fail) | quiet_step (fail))
  refine wpQuiet_nil ?_
  refine grow_read rfl rfl ?_
  (first | go_big_quiet_step (fail) | quiet_step (fail))
  refine wpQuiet_nil ?_
  refine grow_read rfl rfl ?_
  (first | go_big_quiet_step (fail) | quiet_step (fail))
  refine wpQuiet_nil ?_
  refine grow_read rfl rfl ?_
  (first | go_big_quiet_step (fail) | quiet_step (fail))
  refine wpQuiet_nil ?_
  refine grow_read rfl rfl ?_
  (first | go_big_quiet_step (fail) | quiet_step (fail))
  refine wpQuiet_nil ?_
  refine grow_read rfl rfl ?_
  (first | go_big_quiet_step (fail) | quiet_step (fail))
  refine wpQuiet_nil ?_
  refine grow_read rfl rfl ?_
  (first | go_big_quiet_step (fail) | quiet_step (fail))
  refine wpQuiet_nil ?_
  clear k_a0 k_a1 k_a2 k_a4 k_a6
  refine grow_call rfl rfl ?_
  go_wp2_with (go_at_call 9; refine (CI.out _ ((K0.out.below BB).more BB.size)).mono ?_; rintro _ _ ⟨rfl, B⟩; replace BB := bon BB B; replace a0 := cell_below B a0; replace a1 := cell_below B a1; replace a2 := cell_below B a2; replace a4 := cell_below B a4; replace a6 := cell_below B a6)
  refine ⟨Grows.of B, ?_⟩
  clear B
  have k_a0 := cell_regrown a0
  have k_a1 := cell_regrown a1
  have k_a2 := cell_regrown a2
  have k_a4 := cell_regrown a4
  have k_a6 := cell_regrown a6
  refine grow_read rfl rfl ?_
  (first | go_big_quiet_step (fail) | quiet_step (fail))
  refine wpQuiet_nil ?_
  refine grow_read rfl rfl ?_
  (first | go_big_quiet_step (fail) | quiet_step (fail))
  refine wpQuiet_nil ?_
  clear k_a0 k_a1 k_a2 k_a4 k_a6
  refine grow_nil ?_
  go_wp2
  refine wp_region_grow [0, 1, 2, 3, 4, 5, 6, 7, 9, 10, 8, 11, 12] (by kernel_rfl) (by kernel_rfl) ?_
  intro W B
  replace BB := bon BB B
  replace a0 := cell_below B a0
  replace a1 := cell_below B a1
  replace a2 := cell_below B a2
  replace a4 := cell_below B a4
  replace a6 := cell_below B a6
  clear B
  have k_a0 := cell_regrown a0
  have k_a1 := cell_regrown a1
  have k_a2 := cell_regrown a2
  have k_a4 := cell_regrown a4
  have k_a6 := cell_regrown a6
  refine grow_read rfl rfl ?_
  (first | go_big_quiet_step (fail) | quiet_step (fail))
  refine wpQuiet_nil ?_
  refine grow_read rfl rfl ?_
  (first | go_big_quiet_step (fail) | quiet_step (fail))
  refine wpQuiet_nil ?_
  refine grow_read rfl rfl ?_
  (first | go_big_quiet_step (fail) | quiet_step (fail))
  refine wpQuiet_nil ?_
  refine grow_read rfl rfl ?_
  (first | go_big_quiet_step (fail) | quiet_step (fail))
  refine wpQuiet_nil ?_
  refine grow_read rfl rfl ?_
  (first | go_big_quiet_step (fail) | quiet_step (fail))
  refine wpQuiet_nil ?_
  refine grow_read rfl rfl ?_
  (first | go_big_quiet_step (fail) | quiet_step (fail))
  refine wpQuiet_nil ?_
  refine grow_read rfl rfl ?_
  (first | go_big_quiet_step (fail) | quiet_step (fail))
  refine wpQuiet_nil ?_
  refine grow_read rfl rfl ?_
  (first | go_big_quiet_step (fail) | quiet_step (fail))
  refine wpQuiet_nil ?_
  refine grow_read rfl rfl ?_
  (first | go_big_quiet_step (fail) | quiet_step (fail))
  refine wpQuiet_nil ?_
  refine grow_read rfl rfl ?_
  (first | go_big_quiet_step (fail) | quiet_step (fail))
  refine wpQuiet_nil ?_
  clear k_a0 k_a1 k_a2 k_a4 k_a6
  refine grow_call rfl rfl ?_
  go_wp2_with (go_at_call 9; refine (CN.out _ ((K0.out.below BB).more BB.size)).mono ?_; rintro _ _ ⟨rfl, B⟩; replace BB := bon BB B; replace a0 := cell_below B a0; replace a1 := cell_below B a1; replace a2 := cell_below B a2; replace a4 := cell_below B a4; replace a6 := cell_below B a6)
  refine ⟨Grows.of B, ?_⟩
  clear B
  have k_a0 := cell_regrown a0
  have k_a1 := cell_regrown a1
  have k_a2 := cell_regrown a2
  have k_a4 := cell_regrown a4
  have k_a6 := cell_regrown a6
  refine grow_read rfl rfl ?_
  (first | go_big_quiet_step (fail) | quiet_step (fail))
  refine wpQuiet_nil ?_
  refine grow_read rfl rfl ?_
  (first | go_big_quiet_step (fail) | quiet_step (fail))
  refine wpQuiet_nil ?_
  clear k_a0 k_a1 k_a2 k_a4 k_a6
  refine grow_nil ?_
  go_wp2_with (first
    | (go_at_call 12; (with_reducible refine (CV.out _ ((K1.out.below BB).more BB.size)).mono ?_); rintro _ W5 ⟨A5, n5, d5, rfl, _, R5, B⟩; obtain rfl : n5 = N := (by have q1 := R5.len; have q2 := HN.out; omega); have K5 := Lib.hid R5; replace BB := bon BB B; replace a4 := cell_below B a4; clear B R5)
    | (go_at_call 21; (with_reducible refine (CW.out _ ((K1.out.below BB).more BB.size)).mono ?_); rintro _ W6 ⟨rfl, B⟩; replace BB := bon BB B; replace a4 := cell_below B a4; replace K5 := Lib.hid (K5.out.on B); clear B)
    | (go_at_call 14; (with_reducible refine (hexample_b _).mono ?_); rintro _ W9 ⟨rfl, B⟩; replace BB := bon BB B; clear B))
  rename World => wv
  have B0 := Below.refl wv.heap.size wv
  go_loopw [5] (fun j wr => ∃ k : Nat, k ≤ n5 ∧ j = .int .i64 (k : Int) ∧ Below wv.heap.size wv wr) (fun j _ => n5 - (intOf j).toNat)
  case atStart => exact ⟨0, by omega, rfl, B0⟩
  case round =>
    clear B0
    obtain ⟨k, hk, rfl, B0⟩ := hrel
    rename World => wr
    by_cases hlt : k < n5
    · obtain ⟨b5, o5, x, rfl, cx, x0, x1, hx⟩ := (K5.out.below B0).int hlt
      obtain rfl : x = 0 := (by have h9 := hx.out; rw [HZ.out] at h9; exact List.eq_of_mem_replicate (List.mem_of_getElem? h9))
      clear hx
      go_wp2
      go_roundw
      case rel => exact ⟨k + 1, by omega, by go_num, B0⟩
      case measure => simp [intOf]; omega
    · obtain rfl : k = n5 := by omega
      replace BB := bon BB B0
      replace a4 := cell_below B0 a4
      clear B0
      go_wp2_with (first
        | (go_at_call 19; (with_reducible refine (CC.out _ ((K1.out.below BB).more BB.size)).mono ?_); rintro _ W7 ⟨rfl, B⟩; replace BB := bon BB B; clear B)
        | (go_at_call 14; (with_reducible refine (hexample_b _).mono ?_); rintro _ W9 ⟨rfl, B⟩; replace BB := bon BB B; clear B))
      go_ret
      exact ⟨rfl, BB⟩

set_option maxRecDepth 100000 in
set_option maxHeartbeats 4000000 in
theorem out_b2_neg_n (A0 A1 A2 : Option Addr) (n0 c0 n1 c1 n2 c2 : Nat) (l0 : List Int) (l1 : List At) (l2 : List Bf) (t i m v : Int) (w : World) (R0 : Rd w w.heap.size .u8 A0 n0 l0) (R1 : RdA w w.heap.size A1 n1 l1) (R2 : RdB w w.heap.size A2 n2 l2) (hn0 : n0 ≤ 9223372036854775807) (hn1 : n1 ≤ 9223372036854775807) (hs : isz t = 2) (hq : i < (n0 : Int) / 2) (hi : i < 0) (hv : vldb l1 = false) :
    Calls Try.prog 8 #[.agg #[.slice A0 n0 c0, .int .i64 t, .int .i64 i, .int .i64 m, .slice A1 n1 c1, .slice A2 n2 c2, .int .i64 v]] w fun e w' => e = .returned (.bool true) ∧ Below w.heap.size w w' := by
  have BB := box_below w #[.slice A0 n0 c0, .int .i64 t, .int .i64 i, .int .i64 m, .slice A1 n1 c1, .slice A2 n2 c2, .int .i64 v] 27
  have a0 := box_cell w #[.slice A0 n0 c0, .int .i64 t, .int .i64 i, .int .i64 m, .slice A1 n1 c1, .slice A2 n2 c2, .int .i64 v] 27 0 _ rfl
  have a1 := box_cell w #[.slice A0 n0 c0, .int .i64 t, .int .i64 i, .int .i64 m, .slice A1 n1 c1, .slice A2 n2 c2, .int .i64 v] 27 1 _ rfl
  have a2 := box_cell w #[.slice A0 n0 c0, .int .i64 t, .int .i64 i, .int .i64 m, .slice A1 n1 c1, .slice A2 n2 c2, .int .i64 v] 27 2 _ rfl
  have a4 := box_cell w #[.slice A0 n0 c0, .int .i64 t, .int .i64 i, .int .i64 m, .slice A1 n1 c1, .slice A2 n2 c2, .int .i64 v] 27 4 _ rfl
  have a6 := box_cell w #[.slice A0 n0 c0, .int .i64 t, .int .i64 i, .int .i64 m, .slice A1 n1 c1, .slice A2 n2 c2, .int .i64 v] 27 6 _ rfl
  have K0 := Lib.hid R0
  have K1 := Lib.hid R1
  have CS := Lib.hid (fun W => of_q (isize_q t W))
  have CI := Lib.hid (fun W R => index_b A0 n0 c0 l0 t i W R hn0)
  have CN := Lib.hid (fun W R => index_b A0 n0 c0 l0 1 i W R hn0)
  have CV := Lib.hid (fun W R => vertex_b A1 none n1 c1 0 0 l1 [] v W R (RdB.nil _ _ _) hn1)
  have CW := Lib.hid (fun W R => valid_b A1 n1 c1 l1 W R hn1)
  have HE : Hid (0 < isz t → (n0 : Int) / isz t ≤ i → idx l0 t i = 0) := Lib.hid fun h0 h1 => idx_end h0 (by rw [R0.len]; exact h1)
  rw [hs] at CS
  obtain ⟨Q, hQ⟩ : ∃ Q, (n0 : Int) / 2 = Q := ⟨_, rfl⟩
  have gq : IntKind.i64.wrap ((n0 : Int) / 2) = Q := by rw [hQ]; exact IntWalk.i64_in _ (by omega)
  rw [hQ] at hq
  have tq : decide (Q ≤ i) = false := decide_eq_false (by omega)
  clear hQ
  clear HE hs
  have ti : decide (0 ≤ i) = false := decide_eq_false (by omega)
  have HN : Hid ((if vldb l1 = true then vtx [] v l1 else []).length = 0) := Lib.hid (by rw [hv]; rfl)
  rw [hv] at CW
  obtain ⟨L, hL⟩ : ∃ L, (if vldb l1 = true then vtx [] v l1 else []) = L := ⟨_, rfl⟩
  rw [hL] at CV HN
  clear hL hv
  clear R0 R1 R2
  go_enter Try.func8, Try.ntmps8
  go_wp2_with (first | (go_at_call 17; refine (CS.out _).mono ?_; rintro _ _ ⟨rfl, B⟩; replace BB := bon BB B; replace a0 := cell_below B a0; replace a1 := cell_below B a1; replace a2 := cell_below B a2; replace a4 := cell_below B a4; replace a6 := cell_below B a6))
  have k_a0 := cell_regrown a0
  have k_a1 := cell_regrown a1
  have k_a2 := cell_regrown a2
  have k_a4 := cell_regrown a4
  have k_a6 := cell_regrown a6
  refine wp_region_quiet_below (by kernel_rfl) (by kernel_rfl) ?_
  repeat (first | go_big_quiet_step ((first | fail)) | quiet_step ((first | fail)))
  refine wpQuiet_nil ?_
  intro W hw'
  have B := below_regrown' hw'
  clear hw' k_a0 k_a1 k_a2 k_a4 k_a6
  replace BB := bon BB B
  replace a0 := cell_below B a0
  replace a1 := cell_below B a1
  replace a2 := cell_below B a2
  replace a4 := cell_below B a4
  replace a6 := cell_below B a6
  go_wp2
  have k_a0 := cell_regrown a0
  have k_a1 := cell_regrown a1
  have k_a2 := cell_regrown a2
  have k_a4 := cell_regrown a4
  have k_a6 := cell_regrown a6
  refine wp_region_quiet_below (by kernel_rfl) (by kernel_rfl) ?_
  repeat (first | go_big_quiet_step ((first | fail)) | quiet_step ((first | fail)))
  refine wpQuiet_nil ?_
  intro W hw'
  have B := below_regrown' hw'
  clear hw' k_a0 k_a1 k_a2 k_a4 k_a6
  replace BB := bon BB B
  replace a0 := cell_below B a0
  replace a1 := cell_below B a1
  replace a2 := cell_below B a2
  replace a4 := cell_below B a4
  replace a6 := cell_below B a6
  go_wp2_with (first
    | (go_at_call 12; (with_reducible refine (CV.out _ ((K1.out.below BB).more BB.size)).mono ?_); rintro _ W5 ⟨A5, n5, d5, rfl, _, R5, B⟩; obtain rfl : n5 = 0 := (by have q1 := R5.len; have q2 := HN.out; omega); have K5 := Lib.hid R5; replace BB := bon BB B; replace a4 := cell_below B a4; clear B R5)
    | (go_at_call 21; (with_reducible refine (CW.out _ ((K1.out.below BB).more BB.size)).mono ?_); rintro _ W6 ⟨rfl, B⟩; replace BB := bon BB B; replace a4 := cell_below B a4; replace K5 := Lib.hid (K5.out.on B); clear B)
    | (go_at_call 14; (with_reducible refine (hexample_b _).mono ?_); rintro _ W9 ⟨rfl, B⟩; replace BB := bon BB B; clear B))
  go_ret
  exact ⟨rfl, BB⟩

set_option maxRecDepth 100000 in
set_option maxHeartbeats 4000000 in
theorem out_b2_neg_y (A0 A1 A2 : Option Addr) (n0 c0 n1 c1 n2 c2 : Nat) (l0 : List Int) (l1 : List At) (l2 : List Bf) (t i m v : Int) (w : World) (R0 : Rd w w.heap.size .u8 A0 n0 l0) (R1 : RdA w w.heap.size A1 n1 l1) (R2 : RdB w w.heap.size A2 n2 l2) (hn0 : n0 ≤ 9223372036854775807) (hn1 : n1 ≤ 9223372036854775807) (hs : isz t = 2) (hq : i < (n0 : Int) / 2) (hi : i < 0) (hv : vldb l1 = true) :
    Calls Try.prog 8 #[.agg #[.slice A0 n0 c0, .int .i64 t, .int .i64 i, .int .i64 m, .slice A1 n1 c1, .slice A2 n2 c2, .int .i64 v]] w fun e w' => e = .returned (.bool true) ∧ Below w.heap.size w w' := by
  have BB := box_below w #[.slice A0 n0 c0, .int .i64 t, .int .i64 i, .int .i64 m, .slice A1 n1 c1, .slice A2 n2 c2, .int .i64 v] 27
  have a0 := box_cell w #[.slice A0 n0 c0, .int .i64 t, .int .i64 i, .int .i64 m, .slice A1 n1 c1, .slice A2 n2 c2, .int .i64 v] 27 0 _ rfl
  have a1 := box_cell w #[.slice A0 n0 c0, .int .i64 t, .int .i64 i, .int .i64 m, .slice A1 n1 c1, .slice A2 n2 c2, .int .i64 v] 27 1 _ rfl
  have a2 := box_cell w #[.slice A0 n0 c0, .int .i64 t, .int .i64 i, .int .i64 m, .slice A1 n1 c1, .slice A2 n2 c2, .int .i64 v] 27 2 _ rfl
  have a4 := box_cell w #[.slice A0 n0 c0, .int .i64 t, .int .i64 i, .int .i64 m, .slice A1 n1 c1, .slice A2 n2 c2, .int .i64 v] 27 4 _ rfl
  have a6 := box_cell w #[.slice A0 n0 c0, .int .i64 t, .int .i64 i, .int .i64 m, .slice A1 n1 c1, .slice A2 n2 c2, .int .i64 v] 27 6 _ rfl
  have K0 := Lib.hid R0
  have K1 := Lib.hid R1
  have CS := Lib.hid (fun W => of_q (isize_q t W))
  have CI := Lib.hid (fun W R => index_b A0 n0 c0 l0 t i W R hn0)
  have CN := Lib.hid (fun W R => index_b A0 n0 c0 l0 1 i W R hn0)
  have CV := Lib.hid (fun W R => vertex_b A1 none n1 c1 0 0 l1 [] v W R (RdB.nil _ _ _) hn1)
  have CW := Lib.hid (fun W R => valid_b A1 n1 c1 l1 W R hn1)
  have HE : Hid (0 < isz t → (n0 : Int) / isz t ≤ i → idx l0 t i = 0) := Lib.hid fun h0 h1 => idx_end h0 (by rw [R0.len]; exact h1)
  rw [hs] at CS
  obtain ⟨Q, hQ⟩ : ∃ Q, (n0 : Int) / 2 = Q := ⟨_, rfl⟩
  have gq : IntKind.i64.wrap ((n0 : Int) / 2) = Q := by rw [hQ]; exact IntWalk.i64_in _ (by omega)
  rw [hQ] at hq
  have tq : decide (Q ≤ i) = false := decide_eq_false (by omega)
  clear hQ
  clear HE hs
  have ti : decide (0 ≤ i) = false := decide_eq_false (by omega)
  have CC := Lib.hid (fun W R => comps_b A1 n1 c1 l1 W R (by have := (vldb_iff.1 hv).1; have := R1.len; omega))
  have HZ := Lib.hid (vtx_out (v := v) hv)
  rw [hv] at CW
  obtain ⟨L, hL⟩ : ∃ L, (if vldb l1 = true then vtx [] v l1 else []) = L := ⟨_, rfl⟩
  rw [hL] at CV
  rw [if_pos hv] at hL
  replace HZ : Hid (L = List.replicate (csum l1) 0) := Lib.hid (by rw [← hL]; exact HZ.out.1)
  obtain ⟨N, hN⟩ : ∃ N, csum l1 = N := ⟨_, rfl⟩
  rw [hN] at CC HZ
  have hN32 : N ≤ 32 := by rw [← hN]; exact (vtx_out (v := v) hv).2
  have HN : Hid (L.length = N) := Lib.hid (by rw [HZ.out, List.length_replicate])
  clear hL hN hv
  clear R0 R1 R2
  go_enter Try.func8, Try.ntmps8
  go_wp2_with (first | (go_at_call 17; refine (CS.out _).mono ?_; rintro _ _ ⟨rfl, B⟩; replace BB := bon BB B; replace a0 := cell_below B a0; replace a1 := cell_below B a1; replace a2 := cell_below B a2; replace a4 := cell_below B a4; replace a6 := cell_below B a6))
  have k_a0 := cell_regrown a0
  have k_a1 := cell_regrown a1
  have k_a2 := cell_regrown a2
  have k_a4 := cell_regrown a4
  have k_a6 := cell_regrown a6
  refine wp_region_quiet_below (by kernel_rfl) (by kernel_rfl) ?_
  repeat (first | go_big_quiet_step ((first | fail)) | quiet_step ((first | fail)))
  refine wpQuiet_nil ?_
  intro W hw'
  have B := below_regrown' hw'
  clear hw' k_a0 k_a1 k_a2 k_a4 k_a6
  replace BB := bon BB B
  replace a0 := cell_below B a0
  replace a1 := cell_below B a1
  replace a2 := cell_below B a2
  replace a4 := cell_below B a4
  replace a6 := cell_below B a6
  go_wp2
  have k_a0 := cell_regrown a0
  have k_a1 := cell_regrown a1
  have k_a2 := cell_regrown a2
  have k_a4 := cell_regrown a4
  have k_a6 := cell_regrown a6
  refine wp_region_quiet_below (by kernel_rfl) (by kernel_rfl) ?_
  repeat (first | go_big_quiet_step ((first | fail)) | quiet_step ((first | fail)))
  refine wpQuiet_nil ?_
  intro W hw'
  have B := below_regrown' hw'
  clear hw' k_a0 k_a1 k_a2 k_a4 k_a6
  replace BB := bon BB B
  replace a0 := cell_below B a0
  replace a1 := cell_below B a1
  replace a2 := cell_below B a2
  replace a4 := cell_below B a4
  replace a6 := cell_below B a6
  go_wp2_with (first
    | (go_at_call 12; (with_reducible refine (CV.out _ ((K1.out.below BB).more BB.size)).mono ?_); rintro _ W5 ⟨A5, n5, d5, rfl, _, R5, B⟩; obtain rfl : n5 = N := (by have q1 := R5.len; have q2 := HN.out; omega); have K5 := Lib.hid R5; replace BB := bon BB B; replace a4 := cell_below B a4; clear B R5)
    | (go_at_call 21; (with_reducible refine (CW.out _ ((K1.out.below BB).more BB.size)).mono ?_); rintro _ W6 ⟨rfl, B⟩; replace BB := bon BB B; replace a4 := cell_below B a4; replace K5 := Lib.hid (K5.out.on B); clear B)
    | (go_at_call 14; (with_reducible refine (hexample_b _).mono ?_); rintro _ W9 ⟨rfl, B⟩; replace BB := bon BB B; clear B))
  rename World => wv
  have B0 := Below.refl wv.heap.size wv
  go_loopw [5] (fun j wr => ∃ k : Nat, k ≤ n5 ∧ j = .int .i64 (k : Int) ∧ Below wv.heap.size wv wr) (fun j _ => n5 - (intOf j).toNat)
  case atStart => exact ⟨0, by omega, rfl, B0⟩
  case round =>
    clear B0
    obtain ⟨k, hk, rfl, B0⟩ := hrel
    rename World => wr
    by_cases hlt : k < n5
    · obtain ⟨b5, o5, x, rfl, cx, x0, x1, hx⟩ := (K5.out.below B0).int hlt
      obtain rfl : x = 0 := (by have h9 := hx.out; rw [HZ.out] at h9; exact List.eq_of_mem_replicate (List.mem_of_getElem? h9))
      clear hx
      go_wp2
      go_roundw
      case rel => exact ⟨k + 1, by omega, by go_num, B0⟩
      case measure => simp [intOf]; omega
    · obtain rfl : k = n5 := by omega
      replace BB := bon BB B0
      replace a4 := cell_below B0 a4
      clear B0
      go_wp2_with (first
        | (go_at_call 19; (with_reducible refine (CC.out _ ((K1.out.below BB).more BB.size)).mono ?_); rintro _ W7 ⟨rfl, B⟩; replace BB := bon BB B; clear B)
        | (go_at_call 14; (with_reducible refine (hexample_b _).mono ?_); rintro _ W9 ⟨rfl, B⟩; replace BB := bon BB B; clear B))
      go_ret
      exact ⟨rfl, BB⟩

set_option maxRecDepth 100000 in
set_option maxHeartbeats 4000000 in
theorem out_b2_pos_n (A0 A1 A2 : Option Addr) (n0 c0 n1 c1 n2 c2 : Nat) (l0 : List Int) (l1 : List At) (l2 : List Bf) (t i m v : Int) (w : World) (R0 : Rd w w.heap.size .u8 A0 n0 l0) (R1 : RdA w w.heap.size A1 n1 l1) (R2 : RdB w w.heap.size A2 n2 l2) (hn0 : n0 ≤ 9223372036854775807) (hn1 : n1 ≤ 9223372036854775807) (hs : isz t = 2) (hq : i < (n0 : Int) / 2) (hi : 0 ≤ i) (hv : vldb l1 = false) :
    Calls Try.prog 8 #[.agg #[.slice A0 n0 c0, .int .i64 t, .int .i64 i, .int .i64 m, .slice A1 n1 c1, .slice A2 n2 c2, .int .i64 v]] w fun e w' => e = .returned (.bool true) ∧ Below w.heap.size w w' := by
  have BB := box_below w #[.slice A0 n0 c0, .int .i64 t, .int .i64 i, .int .i64 m, .slice A1 n1 c1, .slice A2 n2 c2, .int .i64 v] 27
  have a0 := box_cell w #[.slice A0 n0 c0, .int .i64 t, .int .i64 i, .int .i64 m, .slice A1 n1 c1, .slice A2 n2 c2, .int .i64 v] 27 0 _ rfl
  have a1 := box_cell w #[.slice A0 n0 c0, .int .i64 t, .int .i64 i, .int .i64 m, .slice A1 n1 c1, .slice A2 n2 c2, .int .i64 v] 27 1 _ rfl
  have a2 := box_cell w #[.slice A0 n0 c0, .int .i64 t, .int .i64 i, .int .i64 m, .slice A1 n1 c1, .slice A2 n2 c2, .int .i64 v] 27 2 _ rfl
  have a4 := box_cell w #[.slice A0 n0 c0, .int .i64 t, .int .i64 i, .int .i64 m, .slice A1 n1 c1, .slice A2 n2 c2, .int .i64 v] 27 4 _ rfl
  have a6 := box_cell w #[.slice A0 n0 c0, .int .i64 t, .int .i64 i, .int .i64 m, .slice A1 n1 c1, .slice A2 n2 c2, .int .i64 v] 27 6 _ rfl
  have K0 := Lib.hid R0
  have K1 := Lib.hid R1
  have CS := Lib.hid (fun W => of_q (isize_q t W))
  have CI := Lib.hid (fun W R => index_b A0 n0 c0 l0 t i W R hn0)
  have CN := Lib.hid (fun W R => index_b A0 n0 c0 l0 1 i W R hn0)
  have CV := Lib.hid (fun W R => vertex_b A1 none n1 c1 0 0 l1 [] v W R (RdB.nil _ _ _) hn1)
  have CW := Lib.hid (fun W R => valid_b A1 n1 c1 l1 W R hn1)
  have HE : Hid (0 < isz t → (n0 : Int) / isz t ≤ i → idx l0 t i = 0) := Lib.hid fun h0 h1 => idx_end h0 (by rw [R0.len]; exact h1)
  rw [hs] at CS
  obtain ⟨Q, hQ⟩ : ∃ Q, (n0 : Int) / 2 = Q := ⟨_, rfl⟩
  have gq : IntKind.i64.wrap ((n0 : Int) / 2) = Q := by rw [hQ]; exact IntWalk.i64_in _ (by omega)
  rw [hQ] at hq
  have tq : decide (Q ≤ i) = false := decide_eq_false (by omega)
  clear hQ
  clear HE hs
  rw [idx_no l0 hi] at CN
  have ti : decide (0 ≤ i) = true := decide_eq_true hi
  have HN : Hid ((if vldb l1 = true then vtx [] v l1 else []).length = 0) := Lib.hid (by rw [hv]; rfl)
  rw [hv] at CW
  obtain ⟨L, hL⟩ : ∃ L, (if vldb l1 = true then vtx [] v l1 else []) = L := ⟨_, rfl⟩
  rw [hL] at CV HN
  clear hL hv
  clear R0 R1 R2
  go_enter Try.func8, Try.ntmps8
  go_wp2_with (first | (go_at_call 17; refine (CS.out _).mono ?_; rintro _ _ ⟨rfl, B⟩; replace BB := bon BB B; replace a0 := cell_below B a0; replace a1 := cell_below B a1; replace a2 := cell_below B a2; replace a4 := cell_below B a4; replace a6 := cell_below B a6))
  have k_a0 := cell_regrown a0
  have k_a1 := cell_regrown a1
  have k_a2 := cell_regrown a2
  have k_a4 := cell_regrown a4
  have k_a6 := cell_regrown a6
  refine wp_region_quiet_below (by kernel_rfl) (by kernel_rfl) ?_
  repeat (first | go_big_quiet_step ((first | fail)) | quiet_step ((first | fail)))
  refine wpQuiet_nil ?_
  intro W hw'
  have B := below_regrown' hw'
  clear hw' k_a0 k_a1 k_a2 k_a4 k_a6
  replace BB := bon BB B
  replace a0 := cell_below B a0
  replace a1 := cell_below B a1
  replace a2 := cell_below B a2
  replace a4 := cell_below B a4
  replace a6 := cell_below B a6
  go_wp2
  refine wp_region_grow [0, 1, 2, 3, 4, 5, 6, 7, 9, 10, 8, 11, 12] (by kernel_rfl) (by kernel_rfl) ?_
  intro W B
  replace BB := bon BB B
  replace a0 := cell_below B a0
  replace a1 := cell_below B a1
  replace a2 := cell_below B a2
  replace a4 := cell_below B a4
  replace a6 := cell_below B a6
  clear B
  have k_a0 := cell_regrown a0
  have k_a1 := cell_regrown a1
  have k_a2 := cell_regrown a2
  have k_a4 := cell_regrown a4
  have k_a6 := cell_regrown a6
  refine grow_read rfl rfl ?_
  (first | go_big_quiet_step (fail) | quiet_step (fail))
  refine wpQuiet_nil ?_
  refine grow_read rfl rfl ?_
  (first | go_big_quiet_step (fail) | quiet_step (fail))
  refine wpQuiet_nil ?_
  refine grow_read rfl rfl ?_
  (first | go_big_quiet_step (fail) | quiet_step (fail))
  refine wpQuiet_nil ?_
  refine grow_read rfl rfl ?_
  (first | go_big_quiet_step (fail) | quiet_step (fail))
  refine wpQuiet_nil ?_
  refine grow_read rfl rfl ?_
  (first | go_big_quiet_step (fail) | quiet_step (fail))
  refine wpQuiet_nil ?_
  refine grow_read rfl rfl ?_
  (first | go_big_quiet_step (fail) | quiet_step (fail))
  refine wpQuiet_nil ?_
  refine grow_read rfl rfl ?_
  (first | go_big_quiet_step (fail) | quiet_step (fail))
  refine wpQuiet_nil ?_
  refine grow_read rfl rfl ?_
  (first | go_big_quiet_step (fail) | quiet_step (fail))
  refine wpQuiet_nil ?_
  refine grow_read rfl rfl ?_
  (first | go_big_quiet_step (fail) | quiet_step (fail))
  refine wpQuiet_nil ?_
  refine grow_read rfl rfl ?_
  (first | go_big_quiet_step (fail) | quiet_step (fail))
  refine wpQuiet_nil ?_
  clear k_a0 k_a1 k_a2 k_a4 k_a6
  refine grow_call rfl rfl ?_
  go_wp2_with (go_at_call 9; refine (CN.out _ ((K0.out.below BB).more BB.size)).mono ?_; rintro _ _ ⟨rfl, B⟩; replace BB := bon BB B; replace a0 := cell_below B a0; replace a1 := cell_below B a1; replace a2 := cell_below B a2; replace a4 := cell_below B a4; replace a6 := cell_below B a6)
  refine ⟨Grows.of B, ?_⟩
  clear B
  have k_a0 := cell_regrown a0
  have k_a1 := cell_regrown a1
  have k_a2 := cell_regrown a2
  have k_a4 := cell_regrown a4
  have k_a6 := cell_regrown a6
  refine grow_read rfl rfl ?_
  (first | go_big_quiet_step (fail) | quiet_step (fail))
  refine wpQuiet_nil ?_
  refine grow_read rfl rfl ?_
  (first | go_big_quiet_step (fail) | quiet_step (fail))
  refine wpQuiet_nil ?_
  clear k_a0 k_a1 k_a2 k_a4 k_a6
  refine grow_nil ?_
  go_wp2_with (first
    | (go_at_call 12; (with_reducible refine (CV.out _ ((K1.out.below BB).more BB.size)).mono ?_); rintro _ W5 ⟨A5, n5, d5, rfl, _, R5, B⟩; obtain rfl : n5 = 0 := (by have q1 := R5.len; have q2 := HN.out; omega); have K5 := Lib.hid R5; replace BB := bon BB B; replace a4 := cell_below B a4; clear B R5)
    | (go_at_call 21; (with_reducible refine (CW.out _ ((K1.out.below BB).more BB.size)).mono ?_); rintro _ W6 ⟨rfl, B⟩; replace BB := bon BB B; replace a4 := cell_below B a4; replace K5 := Lib.hid (K5.out.on B); clear B)
    | (go_at_call 14; (with_reducible refine (hexample_b _).mono ?_); rintro _ W9 ⟨rfl, B⟩; replace BB := bon BB B; clear B))
  go_ret
  exact ⟨rfl, BB⟩

set_option maxRecDepth 100000 in
set_option maxHeartbeats 4000000 in
theorem out_b2_pos_y (A0 A1 A2 : Option Addr) (n0 c0 n1 c1 n2 c2 : Nat) (l0 : List Int) (l1 : List At) (l2 : List Bf) (t i m v : Int) (w : World) (R0 : Rd w w.heap.size .u8 A0 n0 l0) (R1 : RdA w w.heap.size A1 n1 l1) (R2 : RdB w w.heap.size A2 n2 l2) (hn0 : n0 ≤ 9223372036854775807) (hn1 : n1 ≤ 9223372036854775807) (hs : isz t = 2) (hq : i < (n0 : Int) / 2) (hi : 0 ≤ i) (hv : vldb l1 = true) :
    Calls Try.prog 8 #[.agg #[.slice A0 n0 c0, .int .i64 t, .int .i64 i, .int .i64 m, .slice A1 n1 c1, .slice A2 n2 c2, .int .i64 v]] w fun e w' => e = .returned (.bool true) ∧ Below w.heap.size w w' := by
  have BB := box_below w #[.slice A0 n0 c0, .int .i64 t, .int .i64 i, .int .i64 m, .slice A1 n1 c1, .slice A2 n2 c2, .int .i64 v] 27
  have a0 := box_cell w #[.slice A0 n0 c0, .int .i64 t, .int .i64 i, .int .i64 m, .slice A1 n1 c1, .slice A2 n2 c2, .int .i64 v] 27 0 _ rfl
  have a1 := box_cell w #[.slice A0 n0 c0, .int .i64 t, .int .i64 i, .int .i64 m, .slice A1 n1 c1, .slice A2 n2 c2, .int .i64 v] 27 1 _ rfl
  have a2 := box_cell w #[.slice A0 n0 c0, .int .i64 t, .int .i64 i, .int .i64 m, .slice A1 n1 c1, .slice A2 n2 c2, .int .i64 v] 27 2 _ rfl
  have a4 := box_cell w #[.slice A0 n0 c0, .int .i64 t, .int .i64 i, .int .i64 m, .slice A1 n1 c1, .slice A2 n2 c2, .int .i64 v] 27 4 _ rfl
  have a6 := box_cell w #[.slice A0 n0 c0, .int .i64 t, .int .i64 i, .int .i64 m, .slice A1 n1 c1, .slice A2 n2 c2, .int .i64 v] 27 6 _ rfl
  have K0 := Lib.hid R0
  have K1 := Lib.hid R1
  have CS := Lib.hid (fun W => of_q (isize_q t W))
  have CI := Lib.hid (fun W R => index_b A0 n0 c0 l0 t i W R hn0)
  have CN := Lib.hid (fun W R => index_b A0 n0 c0 l0 1 i W R hn0)
  have CV := Lib.hid (fun W R => vertex_b A1 none n1 c1 0 0 l1 [] v W R (RdB.nil _ _ _) hn1)
  have CW := Lib.hid (fun W R => valid_b A1 n1 c1 l1 W R hn1)
  have HE : Hid (0 < isz t → (n0 : Int) / isz t ≤ i → idx l0 t i = 0) := Lib.hid fun h0 h1 => idx_end h0 (by rw [R0.len]; exact h1)
  rw [hs] at CS
  obtain ⟨Q, hQ⟩ : ∃ Q, (n0 : Int) / 2 = Q := ⟨_, rfl⟩
  have gq : IntKind.i64.wrap ((n0 : Int) / 2) = Q := by rw [hQ]; exact IntWalk.i64_in _ (by omega)
  rw [hQ] at hq
  have tq : decide (Q ≤ i) = false := decide_eq_false (by omega)
  clear hQ
  clear HE hs
  rw [idx_no l0 hi] at CN
  have ti : decide (0 ≤ i) = true := decide_eq_true hi
  have CC := Lib.hid (fun W R => comps_b A1 n1 c1 l1 W R (by have := (vldb_iff.1 hv).1; have := R1.len; omega))
  have HZ := Lib.hid (vtx_out (v := v) hv)
  rw [hv] at CW
  obtain ⟨L, hL⟩ : ∃ L, (if vldb l1 = true then vtx [] v l1 else []) = L := ⟨_, rfl⟩
  rw [hL] at CV
  rw [if_pos hv] at hL
  replace HZ : Hid (L = List.replicate (csum l1) 0) := Lib.hid (by rw [← hL]; exact HZ.out.1)
  obtain ⟨N, hN⟩ : ∃ N, csum l1 = N := ⟨_, rfl⟩
  rw [hN] at CC HZ
  have hN32 : N ≤ 32 := by rw [← hN]; exact (vtx_out (v := v) hv).2
  have HN : Hid (L.length = N) := Lib.hid (by rw [HZ.out, List.length_replicate])
  clear hL hN hv
  clear R0 R1 R2
  go_enter Try.func8, Try.ntmps8
  go_wp2_with (first | (go_at_call 17; refine (CS.out _).mono ?_; rintro _ _ ⟨rfl, B⟩; replace BB := bon BB B; replace a0 := cell_below B a0; replace a1 := cell_below B a1; replace a2 := cell_below B a2; replace a4 := cell_below B a4; replace a6 := cell_below B a6))
  have k_a0 := cell_regrown a0
  have k_a1 := cell_regrown a1
  have k_a2 := cell_regrown a2
  have k_a4 := cell_regrown a4
  have k_a6 := cell_regrown a6
  refine wp_region_quiet_below (by kernel_rfl) (by kernel_rfl) ?_
  repeat (first | go_big_quiet_step ((first | fail)) | quiet_step ((first | fail)))
  refine wpQuiet_nil ?_
  intro W hw'
  have B := below_regrown' hw'
  clear hw' k_a0 k_a1 k_a2 k_a4 k_a6
  replace BB := bon BB B
  replace a0 := cell_below B a0
  replace a1 := cell_below B a1
  replace a2 := cell_below B a2
  replace a4 := cell_below B a4
  replace a6 := cell_below B a6
  go_wp2
  refine wp_region_grow [0, 1, 2, 3, 4, 5, 6, 7, 9, 10, 8, 11, 12] (by kernel_rfl) (by kernel_rfl) ?_
  intro W B
  replace BB := bon BB B
  replace a0 := cell_below B a0
  replace a1 := cell_below B a1
  replace a2 := cell_below B a2
  replace a4 := cell_below B a4
  replace a6 := cell_below B a6
  clear B
  have k_a0 := cell_regrown a0
  have k_a1 := cell_regrown a1
  have k_a2 := cell_regrown a2
  have k_a4 := cell_regrown a4
  have k_a6 := cell_regrown a6
  refine grow_read rfl rfl ?_
  (first | go_big_quiet_step (fail) | quiet_step (fail))
  refine wpQuiet_nil ?_
  refine grow_read rfl rfl ?_
  (first | go_big_quiet_step (fail) | quiet_step (fail))
  refine wpQuiet_nil ?_
  refine grow_read rfl rfl ?_
  (first | go_big_quiet_step (fail) | quiet_step (fail))
  refine wpQuiet_nil ?_
  refine grow_read rfl rfl ?_
  (first | go_big_quiet_step (fail) | quiet_step (fail))
  refine wpQuiet_nil ?_
  refine grow_read rfl rfl ?_
  (first | go_big_quiet_step (fail) | quiet_step (fail))
  refine wpQuiet_nil ?_
  refine grow_read rfl rfl ?_
  (first | go_big_quiet_step (fail) | quiet_step (fail))
  refine wpQuiet_nil ?_
  refine grow_read rfl rfl ?_
  (first | go_big_quiet_step (fail) | quiet_step (fail))
  refine wpQuiet_nil ?_
  refine grow_read rfl rfl ?_
  (first | go_big_quiet_step (fail) | quiet_step (fail))
  refine wpQuiet_nil ?_
  refine grow_read rfl rfl ?_
  (first | go_big_quiet_step (fail) | quiet_step (fail))
  refine wpQuiet_nil ?_
  refine grow_read rfl rfl ?_
  (first | go_big_quiet_step (fail) | quiet_step (fail))
  refine wpQuiet_nil ?_
  clear k_a0 k_a1 k_a2 k_a4 k_a6
  refine grow_call rfl rfl ?_
  go_wp2_with (go_at_call 9; refine (CN.out _ ((K0.out.below BB).more BB.size)).mono ?_; rintro _ _ ⟨rfl, B⟩; replace BB := bon BB B; replace a0 := cell_below B a0; replace a1 := cell_below B a1; replace a2 := cell_below B a2; replace a4 := cell_below B a4; replace a6 := cell_below B a6)
  refine ⟨Grows.of B, ?_⟩
  clear B
  have k_a0 := cell_regrown a0
  have k_a1 := cell_regrown a1
  have k_a2 := cell_regrown a2
  have k_a4 := cell_regrown a4
  have k_a6 := cell_regrown a6
  refine grow_read rfl rfl ?_
  (first | go_big_quiet_step (fail) | quiet_step (fail))
  refine wpQuiet_nil ?_
  refine grow_read rfl rfl ?_
  (first | go_big_quiet_step (fail) | quiet_step (fail))
  refine wpQuiet_nil ?_
  clear k_a0 k_a1 k_a2 k_a4 k_a6
  refine grow_nil ?_
  go_wp2_with (first
    | (go_at_call 12; (with_reducible refine (CV.out _ ((K1.out.below BB).more BB.size)).mono ?_); rintro _ W5 ⟨A5, n5, d5, rfl, _, R5, B⟩; obtain rfl : n5 = N := (by have q1 := R5.len; have q2 := HN.out; omega); have K5 := Lib.hid R5; replace BB := bon BB B; replace a4 := cell_below B a4; clear B R5)
    | (go_at_call 21; (with_reducible refine (CW.out _ ((K1.out.below BB).more BB.size)).mono ?_); rintro _ W6 ⟨rfl, B⟩; replace BB := bon BB B; replace a4 := cell_below B a4; replace K5 := Lib.hid (K5.out.on B); clear B)
    | (go_at_call 14; (with_reducible refine (hexample_b _).mono ?_); rintro _ W9 ⟨rfl, B⟩; replace BB := bon BB B; clear B))
  rename World => wv
  have B0 := Below.refl wv.heap.size wv
  go_loopw [5] (fun j wr => ∃ k : Nat, k ≤ n5 ∧ j = .int .i64 (k : Int) ∧ Below wv.heap.size wv wr) (fun j _ => n5 - (intOf j).toNat)
  case atStart => exact ⟨0, by omega, rfl, B0⟩
  case round =>
    clear B0
    obtain ⟨k, hk, rfl, B0⟩ := hrel
    rename World => wr
    by_cases hlt : k < n5
    · obtain ⟨b5, o5, x, rfl, cx, x0, x1, hx⟩ := (K5.out.below B0).int hlt
      obtain rfl : x = 0 := (by have h9 := hx.out; rw [HZ.out] at h9; exact List.eq_of_mem_replicate (List.mem_of_getElem? h9))
      clear hx
      go_wp2
      go_roundw
      case rel => exact ⟨k + 1, by omega, by go_num, B0⟩
      case measure => simp [intOf]; omega
    · obtain rfl : k = n5 := by omega
      replace BB := bon BB B0
      replace a4 := cell_below B0 a4
      clear B0
      go_wp2_with (first
        | (go_at_call 19; (with_reducible refine (CC.out _ ((K1.out.below BB).more BB.size)).mono ?_); rintro _ W7 ⟨rfl, B⟩; replace BB := bon BB B; clear B)
        | (go_at_call 14; (with_reducible refine (hexample_b _).mono ?_); rintro _ W9 ⟨rfl, B⟩; replace BB := bon BB B; clear B))
      go_ret
      exact ⟨rfl, BB⟩

set_option maxRecDepth 100000 in
set_option maxHeartbeats 4000000 in
theorem out_c2_pos_n (A0 A1 A2 : Option Addr) (n0 c0 n1 c1 n2 c2 : Nat) (l0 : List Int) (l1 : List At) (l2 : List Bf) (t i m v : Int) (w : World) (R0 : Rd w w.heap.size .u8 A0 n0 l0) (R1 : RdA w w.heap.size A1 n1 l1) (R2 : RdB w w.heap.size A2 n2 l2) (hn0 : n0 ≤ 9223372036854775807) (hn1 : n1 ≤ 9223372036854775807) (hs : isz t = 2) (hq : (n0 : Int) / 2 ≤ i) (hi : 0 ≤ i) (hv : vldb l1 = false) :
    Calls Try.prog 8 #[.agg #[.slice A0 n0 c0, .int .i64 t, .int .i64 i, .int .i64 m, .slice A1 n1 c1, .slice A2 n2 c2, .int .i64 v]] w fun e w' => e = .returned (.bool true) ∧ Below w.heap.size w w' := by
  have BB := box_below w #[.slice A0 n0 c0, .int .i64 t, .int .i64 i, .int .i64 m, .slice A1 n1 c1, .slice A2 n2 c2, .int .i64 v] 27
  have a0 := box_cell w #[.slice A0 n0 c0, .int .i64 t, .int .i64 i, .int .i64 m, .slice A1 n1 c1, .slice A2 n2 c2, .int .i64 v] 27 0 _ rfl
  have a1 := box_cell w #[.slice A0 n0 c0, .int .i64 t, .int .i64 i, .int .i64 m, .slice A1 n1 c1, .slice A2 n2 c2, .int .i64 v] 27 1 _ rfl
  have a2 := box_cell w #[.slice A0 n0 c0, .int .i64 t, .int .i64 i, .int .i64 m, .slice A1 n1 c1, .slice A2 n2 c2, .int .i64 v] 27 2 _ rfl
  have a4 := box_cell w #[.slice A0 n0 c0, .int .i64 t, .int .i64 i, .int .i64 m, .slice A1 n1 c1, .slice A2 n2 c2, .int .i64 v] 27 4 _ rfl
  have a6 := box_cell w #[.slice A0 n0 c0, .int .i64 t, .int .i64 i, .int .i64 m, .slice A1 n1 c1, .slice A2 n2 c2, .int .i64 v] 27 6 _ rfl
  have K0 := Lib.hid R0
  have K1 := Lib.hid R1
  have CS := Lib.hid (fun W => of_q (isize_q t W))
  have CI := Lib.hid (fun W R => index_b A0 n0 c0 l0 t i W R hn0)
  have CN := Lib.hid (fun W R => index_b A0 n0 c0 l0 1 i W R hn0)
  have CV := Lib.hid (fun W R => vertex_b A1 none n1 c1 0 0 l1 [] v W R (RdB.nil _ _ _) hn1)
  have CW := Lib.hid (fun W R => valid_b A1 n1 c1 l1 W R hn1)
  have HE : Hid (0 < isz t → (n0 : Int) / isz t ≤ i → idx l0 t i = 0) := Lib.hid fun h0 h1 => idx_end h0 (by rw [R0.len]; exact h1)
  have hz := HE.out (by rw [hs]; decide) (by rw [hs]; exact hq)
  rw [hs] at CS
  rw [hz] at CI
  obtain ⟨Q, hQ⟩ : ∃ Q, (n0 : Int) / 2 = Q := ⟨_, rfl⟩
  have gq : IntKind.i64.wrap ((n0 : Int) / 2) = Q := by rw [hQ]; exact IntWalk.i64_in _ (by omega)
  rw [hQ] at hq
  have tq : decide (Q ≤ i) = true := decide_eq_true (by omega)
  clear hQ
  clear HE hs hz
  rw [idx_no l0 hi] at CN
  have ti : decide (0 ≤ i) = true := decide_eq_true hi
  have HN : Hid ((if vldb l1 = true then vtx [] v l1 else []).length = 0) := Lib.hid (by rw [hv]; rfl)
  rw [hv] at CW
  obtain ⟨L, hL⟩ : ∃ L, (if vldb l1 = true then vtx [] v l1 else []) = L := ⟨_, rfl⟩
  rw [hL] at CV HN
  clear hL hv
  clear R0 R1 R2
  go_enter Try.func8, Try.ntmps8
  go_wp2_with (first | (go_at_call 17; refine (CS.out _).mono ?_; rintro _ _ ⟨rfl, B⟩; replace BB := bon BB B; replace a0 := cell_below B a0; replace a1 := cell_below B a1; replace a2 := cell_below B a2; replace a4 := cell_below B a4; replace a6 := cell_below B a6))
  refine wp_region_grow [0, 1, 2, 3, 4, 5, 6, 7, 8, 9, 10, 11, 12, 13, 14, 15, 16, 17, 18, 19, 20, 21] (by kernel_rfl) (by kernel_rfl) ?_
  intro W B
  replace BB := bon BB B
  replace a0 := cell_below B a0
  replace a1 := cell_below B a1
  replace a2 := cell_below B a2
  replace a4 := cell_below B a4
  replace a6 := cell_below B a6
  clear B
  have k_a0 := cell_regrown a0
  have k_a1 := cell_regrown a1
  have k_a2 := cell_regrown a2
  have k_a4 := cell_regrown a4
  have k_a6 := cell_regrown a6
  refine grow_read rfl rfl ?_
  (first | go_big_quiet_step (fail) | quiet_step (fail))
  refine wpQuiet_nil ?_
  refine grow_read rfl rfl ?_
  (first | go_big_quiet_step (fail) | quiet_step (fail))
  refine wpQuiet_nil ?_
  refine grow_read rfl rfl ?_
  (first | go_big_quiet_step (fail) | quiet_step (fail))
  refine wpQuiet_nil ?_
  refine grow_read rfl rfl ?_
  (first | go_big_quiet_step (fail) | quiet_step (fail))
  refine wpQuiet_nil ?_
  refine grow_read rfl rfl ?_
  (first | go_big_quiet_step (fail) | quiet_step (fail))
  refine wpQuiet_nil ?_
  refine grow_read rfl rfl ?_
  (first | go_big_quiet_step (fail) | quiet_step (fail))
  refine wpQuiet_nil ?_
  refine grow_read rfl rfl ?_
  (first | go_big_quiet_step (fail) | quiet_step (fail))
  refine wpQuiet_nil ?_
  refine grow_read rfl rfl ?_
  (first | go_big_quiet_step (fail) | quiet_step (fail))
  refine wpQuiet_nil ?_
  refine grow_read rfl rfl ?_
  (first | go_big_quiet_step (fail) | quiet_step (fail))
  refine wpQuiet_nil ?_
  refine grow_read rfl rfl ?_
  (first | go_big_quiet_step (fail) | quiet_step (fail))
  refine wpQuiet_nil ?_
  refine grow_read rfl rfl ?_
  (first | go_big_quiet_step (fail) | quiet_step (fail))
  refine wpQuiet_nil ?_
  refine grow_read rfl rfl ?_
  (first | go_big_quiet_step (fail) | quiet_step (fail))
  refine wpQuiet_nil ?_
  refine grow_read rfl rfl ?_
  (first | go_big_quiet_step (fail) | quiet_step (fail))
  refine wpQuiet_nil ?_
  refine grow_read rfl rfl ?_
  (first | go_big_quiet_step (fail) | quiet_step (fail))
  refine wpQuiet_nil ?_
  refine grow_read rfl rfl ?_
  (first | go_big_quiet_step (fail) | quiet_step (fail))
  refine wpQuiet_nil ?_
  refine grow_read rfl rfl ?_
  (first | go_big_quiet_step (fail) | quiet_step (fail))
  refine wpQuiet_nil ?_
  refine grow_read rfl rfl ?_
  (first | go_big_quiet_step (fail) | quiet_step (fail))
  refine wpQuiet_nil ?_
  refine grow_read rfl rfl ?_
  (first | go_big_quiet_step (fail) | quiet_step (fail))
  refine wpQuiet_nil ?_
  refine grow_read rfl rfl ?_
  (first | go_big_quiet_step (fail) | quiet_step (fail))
  refine wpQuiet_nil ?_
  clear k_a0 k_a1 k_a2 k_a4 k_a6
  refine grow_call rfl rfl ?_
  go_wp2_with (go_at_call 9; refine (CI.out _ ((K0.out.below BB).more BB.size)).mono ?_; rintro _ _ ⟨rfl, B⟩; replace BB := bon BB B; replace a0 := cell_below B a0; replace a1 := cell_below B a1; replace a2 := cell_below B a2; replace a4 := cell_below B a4; replace a6 := cell_below B a6)
  refine ⟨Grows.of B, ?_⟩
  clear B
  have k_a0 := cell_regrown a0
  have k_a1 := cell_regrown a1
  have k_a2 := cell_regrown a2
  have k_a4 := cell_regrown a4
  have k_a6 := cell_regrown a6
  refine grow_read rfl rfl ?_
  (first | go_big_quiet_step (fail) | quiet_step (fail))
  refine wpQuiet_nil ?_
  refine grow_read rfl rfl ?_
  (first | go_big_quiet_step (fail) | quiet_step (fail))
  refine wpQuiet_nil ?_
  clear k_a0 k_a1 k_a2 k_a4 k_a6
  refine grow_nil ?_
  go_wp2
  refine wp_region_grow [0, 1, 2, 3, 4, 5, 6, 7, 9, 10, 8, 11, 12] (by kernel_rfl) (by kernel_rfl) ?_
  intro W B
  replace BB := bon BB B
  replace a0 := cell_below B a0
  replace a1 := cell_below B a1
  replace a2 := cell_below B a2
  replace a4 := cell_below B a4
  replace a6 := cell_below B a6
  clear B
  have k_a0 := cell_regrown a0
  have k_a1 := cell_regrown a1
  have k_a2 := cell_regrown a2
  have k_a4 := cell_regrown a4
  have k_a6 := cell_regrown a6
  refine grow_read rfl rfl ?_
  (first | go_big_quiet_step (fail) | quiet_step (fail))
  refine wpQuiet_nil ?_
  refine grow_read rfl rfl ?_
  (first | go_big_quiet_step (fail) | quiet_step (fail))
  refine wpQuiet_nil ?_
  refine grow_read rfl rfl ?_
  (first | go_big_quiet_step (fail) | quiet_step (fail))
  refine wpQuiet_nil ?_
  refine grow_read rfl rfl ?_
  (first | go_big_quiet_step (fail) | quiet_step (fail))
  refine wpQuiet_nil ?_
  refine grow_read rfl rfl ?_
  (first | go_big_quiet_step (fail) | quiet_step (fail))
  refine wpQuiet_nil ?_
  refine grow_read rfl rfl ?_
  (first | go_big_quiet_step (fail) | quiet_step (fail))
  refine wpQuiet_nil ?_
  refine grow_read rfl rfl ?_
  (first | go_big_quiet_step (fail) | quiet_step (fail))
  refine wpQuiet_nil ?_
  refine grow_read rfl rfl ?_
  (first | go_big_quiet_step (fail) | quiet_step (fail))
  refine wpQuiet_nil ?_
  refine grow_read rfl rfl ?_
  (first | go_big_quiet_step (fail) | quiet_step (fail))
  refine wpQuiet_nil ?_
  refine grow_read rfl rfl ?_
  (first | go_big_quiet_step (fail) | quiet_step (fail))
  refine wpQuiet_nil ?_
  clear k_a0 k_a1 k_a2 k_a4 k_a6
  refine grow_call rfl rfl ?_
  go_wp2_with (go_at_call 9; refine (CN.out _ ((K0.out.below BB).more BB.size)).mono ?_; rintro _ _ ⟨rfl, B⟩; replace BB := bon BB B; replace a0 := cell_below B a0; replace a1 := cell_below B a1; replace a2 := cell_below B a2; replace a4 := cell_below B a4; replace a6 := cell_below B a6)
  refine ⟨Grows.of B, ?_⟩
  clear B
  have k_a0 := cell_regrown a0
  have k_a1 := cell_regrown a1
  have k_a2 := cell_regrown a2
  have k_a4 := cell_regrown a4
  have k_a6 := cell_regrown a6
  refine grow_read rfl rfl ?_
  (first | go_big_quiet_step (fail) | quiet_step (fail))
  refine wpQuiet_nil ?_
  refine grow_read rfl rfl ?_
  (first | go_big_quiet_step (fail) | quiet_step (fail))
  refine wpQuiet_nil ?_
  clear k_a0 k_a1 k_a2 k_a4 k_a6
  refine grow_nil ?_
  go_wp2_with (first
    | (go_at_call 12; (with_reducible refine (CV.out _ ((K1.out.below BB).more BB.size)).mono ?_); rintro _ W5 ⟨A5, n5, d5, rfl, _, R5, B⟩; obtain rfl : n5 = 0 := (by have q1 := R5.len; have q2 := HN.out; omega); have K5 := Lib.hid R5; replace BB := bon BB B; replace a4 := cell_below B a4; clear B R5)
    | (go_at_call 21; (with_reducible refine (CW.out _ ((K1.out.below BB).more BB.size)).mono ?_); rintro _ W6 ⟨rfl, B⟩; replace BB := bon BB B; replace a4 := cell_below B a4; replace K5 := Lib.hid (K5.out.on B); clear B)
    | (go_at_call 14; (with_reducible refine (hexample_b _).mono ?_); rintro _ W9 ⟨rfl, B⟩; replace BB := bon BB B; clear B))
  go_ret
  exact ⟨rfl, BB⟩

set_option maxRecDepth 100000 in
set_option maxHeartbeats 4000000 in
theorem out_c2_pos_y (A0 A1 A2 : Option Addr) (n0 c0 n1 c1 n2 c2 : Nat) (l0 : List Int) (l1 : List At) (l2 : List Bf) (t i m v : Int) (w : World) (R0 : Rd w w.heap.size .u8 A0 n0 l0) (R1 : RdA w w.heap.size A1 n1 l1) (R2 : RdB w w.heap.size A2 n2 l2) (hn0 : n0 ≤ 9223372036854775807) (hn1 : n1 ≤ 9223372036854775807) (hs : isz t = 2) (hq : (n0 : Int) / 2 ≤ i) (hi : 0 ≤ i) (hv : vldb l1 = true) :
    Calls Try.prog 8 #[.agg #[.slice A0 n0 c0, .int .i64 t, .int .i64 i, .int .i64 m, .slice A1 n1 c1, .slice A2 n2 c2, .int .i64 v]] w fun e w' => e = .returned (.bool true) ∧ Below w.heap.size w w' := by
  have BB := box_below w #[.slice A0 n0 c0, .int .i64 t, .int .i64 i, .int .i64 m, .slice A1 n1 c1, .slice A2 n2 c2, .int .i64 v] 27
  have a0 := box_cell w #[.slice A0 n0 c0, .int .i64 t, .int .i64 i, .int .i64 m, .slice A1 n1 c1, .slice A2 n2 c2, .int .i64 v] 27 0 _ rfl
  have a1 := box_cell w #[.slice A0 n0 c0, .int .i64 t, .int .i64 i, .int .i64 m, .slice A1 n1 c1, .slice A2 n2 c2, .int .i64 v] 27 1 _ rfl
  have a2 := box_cell w #[.slice A0 n0 c0, .int .i64 t, .int .i64 i, .int .i64 m, .slice A1 n1 c1, .slice A2 n2 c2, .int .i64 v] 27 2 _ rfl
  have a4 := box_cell w #[.slice A0 n0 c0, .int .i64 t, .int .i64 i, .int .i64 m, .slice A1 n1 c1, .slice A2 n2 c2, .int .i64 v] 27 4 _ rfl
  have a6 := box_cell w #[.slice A0 n0 c0, .int .i64 t, .int .i64 i, .int .i64 m, .slice A1 n1 c1, .slice A2 n2 c2, .int .i64 v] 27 6 _ rfl
  have K0 := Lib.hid R0
  have K1 := Lib.hid R1
  have CS := Lib.hid (fun W => of_q (isize_q t W))
  have CI := Lib.hid (fun W R => index_b A0 n0 c0 l0 t i W R hn0)
  have CN := Lib.hid (fun W R => index_b A0 n0 c0 l0 1 i W R hn0)
  have CV := Lib.hid (fun W R => vertex_b A1 none n1 c1 0 0 l1 [] v W R (RdB.nil _ _ _) hn1)
  have CW := Lib.hid (fun W R => valid_b A1 n1 c1 l1 W R hn1)
  have HE : Hid (0 < isz t → (n0 : Int) / isz t ≤ i → idx l0 t i = 0) := Lib.hid fun h0 h1 => idx_end h0 (by rw [R0.len]; exact h1)
  have hz := HE.out (by rw [hs]; decide) (by rw [hs]; exact hq)
  rw [hs] at CS
  rw [hz] at CI
  obtain ⟨Q, hQ⟩ : ∃ Q, (n0 : Int) / 2 = Q := ⟨_, rfl⟩
  have gq : IntKind.i64.wrap ((n0 : Int) / 2) = Q := by rw [hQ]; exact IntWalk.i64_in _ (by omega)
  rw [hQ] at hq
  have tq : decide (Q ≤ i) = true := decide_eq_true (by omega)
  clear hQ
  clear HE hs hz
  rw [idx_no l0 hi] at CN
  have ti : decide (0 ≤ i) = true := decide_eq_true hi
  have CC := Lib.hid (fun W R => comps_b A1 n1 c1 l1 W R (by have := (vldb_iff.1 hv).1; have := R1.len; omega))
  have HZ := Lib.hid (vtx_out (v := v) hv)
  rw [hv] at CW
  obtain ⟨L, hL⟩ : ∃ L, (if vldb l1 = true then vtx [] v l1 else []) = L := ⟨_, rfl⟩
  rw [hL] at CV
  rw [if_pos hv] at hL
  replace HZ : Hid (L = List.replicate (csum l1) 0) := Lib.hid (by rw [← hL]; exact HZ.out.1)
  obtain ⟨N, hN⟩ : ∃ N, csum l1 = N := ⟨_, rfl⟩
  rw [hN] at CC HZ
  have hN32 : N ≤ 32 := by rw [← hN]; exact (vtx_out (v := v) hv).2
  have HN : Hid (L.length = N) := Lib.hid (by rw [HZ.out, List.length_replicate])
  clear hL hN hv
  clear R0 R1 R2
  go_enter Try.func8, Try.ntmps8
  go_wp2_with (first | (go_at_call 17; refine (CS.out _).mono ?_; rintro _ _ ⟨rfl, B⟩; replace BB := bon BB B; replace a0 := cell_below B a0; replace a1 := cell_below B a1; replace a2 := cell_below B a2; replace a4 := cell_below B a4; replace a6 := cell_below B a6))
  refine wp_region_grow [0, 1, 2, 3, 4, 5, 6, 7, 8, 9, 10, 11, 12, 13, 14, 15, 16, 17, 18, 19, 20, 21] (by kernel_rfl) (by kernel_rfl) ?_
  intro W B
  replace BB := bon BB B
  replace a0 := cell_below B a0
  replace a1 := cell_below B a1
  replace a2 := cell_below B a2
  replace a4 := cell_below B a4
  replace a6 := cell_below B a6
  clear B
  have k_a0 := cell_regrown a0
  have k_a1 := cell_regrown a1
  have k_a2 := cell_regrown a2
  have k_a4 := cell_regrown a4
  have k_a6 := cell_regrown a6
  refine grow_read rfl rfl ?_
  (first | go_big_quiet_step (fail) | quiet_step (fail))
  refine wpQuiet_nil ?_
  refine grow_read rfl rfl ?_
  (first | go_big_quiet_step (fail) | quiet_step (fail))
  refine wpQuiet_nil ?_
  refine grow_read rfl rfl ?_
  (first | go_big_quiet_step (fail) | quiet_step (fail))
  refine wpQuiet_nil ?_
  refine grow_read rfl rfl ?_
  (first | go_big_quiet_step (fail) | quiet_step (fail))
  refine wpQuiet_nil ?_
  refine grow_read rfl rfl ?_
  (first | go_big_quiet_step (fail) | quiet_step (fail))
  refine wpQuiet_nil ?_
  refine grow_read rfl rfl ?_
  (first | go_big_quiet_step (fail) | quiet_step (fail))
  refine wpQuiet_nil ?_
  refine grow_read rfl rfl ?_
  (first | go_big_quiet_step (fail) | quiet_step (fail))
  refine wpQuiet_nil ?_
  refine grow_read rfl rfl ?_
  (first | go_big_quiet_step (fail) | quiet_step (fail))
  refine wpQuiet_nil ?_
  refine grow_read rfl rfl ?_
  (first | go_big_quiet_step (fail) | quiet_step (fail))
  refine wpQuiet_nil ?_
  refine grow_read rfl rfl ?_
  (first | go_big_quiet_step (fail) | quiet_step (fail))
  refine wpQuiet_nil ?_
  refine grow_read rfl rfl ?_
  (first | go_big_quiet_step (fail) | quiet_step (fail))
  refine wpQuiet_nil ?_
  refine grow_read rfl rfl ?_
  (first | go_big_quiet_step (fail) | quiet_step (fail))
  refine wpQuiet_nil ?_
  refine grow_read rfl rfl ?_
  (first | go_big_quiet_step (fail) | quiet_step (fail))
  refine wpQuiet_nil ?_
  refine grow_read rfl rfl ?_
  (first | go_big_quiet_step (fail) | quiet_step (fail))
  refine wpQuiet_nil ?_
  refine grow_read rfl rfl ?_
  (first | go_big_quiet_step (fail) | quiet_step (fail))
  refine wpQuiet_nil ?_
  refine grow_read rfl rfl ?_
  (first | go_big_quiet_step (fail) | quiet_step (fail))
  refine wpQuiet_nil ?_
  refine grow_read rfl rfl ?_
  (first | go_big_quiet_step (fail) | quiet_step (fail))
  refine wpQuiet_nil ?_
  refine grow_read rfl rfl ?_
  (first | go_big_quiet_step (fail) | quiet_step (fail))
  refine wpQuiet_nil ?_
  refine grow_read rfl rfl ?_
  (first | go_big_quiet_step (fail) | quiet_step (fail))
  refine wpQuiet_nil ?_
  clear k_a0 k_a1 k_a2 k_a4 k_a6
  refine grow_call rfl rfl ?_
  go_wp2_with (go_at_call 9; refine (CI.out _ ((K0.out.below BB).more BB.size)).mono ?_; rintro _ _ ⟨rfl, B⟩; replace BB := bon BB B; replace a0 := cell_below B a0; replace a1 := cell_below B a1; replace a2 := cell_below B a2; replace a4 := cell_below B a4; replace a6 := cell_below B a6)
  refine ⟨Grows.of B, ?_⟩
  clear B
  have k_a0 := cell_regrown a0
  have k_a1 := cell_regrown a1
  have k_a2 := cell_regrown a2
  have k_a4 := cell_regrown a4
  have k_a6 := cell_regrown a6
  refine grow_read rfl rfl ?_
  (first | go_big_quiet_step (fail) | quiet_step (fail))
  refine wpQuiet_nil ?_
  refine grow_read rfl rfl ?_
  (first | go_big_quiet_step (fail) | quiet_step (fail))
  refine wpQuiet_nil ?_
  clear k_a0 k_a1 k_a2 k_a4 k_a6
  refine grow_nil ?_
  go_wp2
  refine wp_region_grow [0, 1, 2, 3, 4, 5, 6, 7, 9, 10, 8, 11, 12] (by kernel_rfl) (by kernel_rfl) ?_
  intro W B
  replace BB := bon BB B
  replace a0 := cell_below B a0
  replace a1 := cell_below B a1
  replace a2 := cell_below B a2
  replace a4 := cell_below B a4
  replace a6 := cell_below B a6
  clear B
  have k_a0 := cell_regrown a0
  have k_a1 := cell_regrown a1
  have k_a2 := cell_regrown a2
  have k_a4 := cell_regrown a4
  have k_a6 := cell_regrown a6
  refine grow_read rfl rfl ?_
  (first | go_big_quiet_step (fail) | quiet_step (fail))
  refine wpQuiet_nil ?_
  refine grow_read rfl rfl ?_
  (first | go_big_quiet_step (fail) | quiet_step (fail))
  refine wpQuiet_nil ?_
  refine grow_read rfl rfl ?_
  (first | go_big_quiet_step (fail) | quiet_step (fail))
  refine wpQuiet_nil ?_
  refine grow_read rfl rfl ?_
  (first | go_big_quiet_step (fail) | quiet_step (fail))
  refine wpQuiet_nil ?_
  refine grow_read rfl rfl ?_
  (first | go_big_quiet_step (fail) | quiet_step (fail))
  refine wpQuiet_nil ?_
  refine grow_read rfl rfl ?_
  (first | go_big_quiet_step (fail) | quiet_step (fail))
  refine wpQuiet_nil ?_
  refine grow_read rfl rfl ?_
  (first | go_big_quiet_step (fail) | quiet_step (fail))
  refine wpQuiet_nil ?_
  refine grow_read rfl rfl ?_
  (first | go_big_quiet_step (fail) | quiet_step (fail))
  refine wpQuiet_nil ?_
  refine grow_read rfl rfl ?_
  (first | go_big_quiet_step (fail) | quiet_step (fail))
  refine wpQuiet_nil ?_
  refine grow_read rfl rfl ?_
  (first | go_big_quiet_step (fail) | quiet_step (fail))
  refine wpQuiet_nil ?_
  clear k_a0 k_a1 k_a2 k_a4 k_a6
  refine grow_call rfl rfl ?_
  go_wp2_with (go_at_call 9; refine (CN.out _ ((K0.out.below BB).more BB.size)).mono ?_; rintro _ _ ⟨rfl, B⟩; replace BB := bon BB B; replace a0 := cell_below B a0; replace a1 := cell_below B a1; replace a2 := cell_below B a2; replace a4 := cell_below B a4; replace a6 := cell_below B a6)
  refine ⟨Grows.of B, ?_⟩
  clear B
  have k_a0 := cell_regrown a0
  have k_a1 := cell_regrown a1
  have k_a2 := cell_regrown a2
  have k_a4 := cell_regrown a4
  have k_a6 := cell_regrown a6
  refine grow_read rfl rfl ?_
  (first | go_big_quiet_step (fail) | quiet_step (fail))
  refine wpQuiet_nil ?_
  refine grow_read rfl rfl ?_
  (first | go_big_quiet_step (fail) | quiet_step (fail))
  refine wpQuiet_nil ?_
  clear k_a0 k_a1 k_a2 k_a4 k_a6
  refine grow_nil ?_
  go_wp2_with (first
    | (go_at_call 12; (with_reducible refine (CV.out _ ((K1.out.below BB).more BB.size)).mono ?_); rintro _ W5 ⟨A5, n5, d5, rfl, _, R5, B⟩; obtain rfl : n5 = N := (by have q1 := R5.len; have q2 := HN.out; omega); have K5 := Lib.hid R5; replace BB := bon BB B; replace a4 := cell_below B a4; clear B R5)
    | (go_at_call 21; (with_reducible refine (CW.out _ ((K1.out.below BB).more BB.size)).mono ?_); rintro _ W6 ⟨rfl, B⟩; replace BB := bon BB B; replace a4 := cell_below B a4; replace K5 := Lib.hid (K5.out.on B); clear B)
    | (go_at_call 14; (with_reducible refine (hexample_b _).mono ?_); rintro _ W9 ⟨rfl, B⟩; replace BB := bon BB B; clear B))
  rename World => wv
  have B0 := Below.refl wv.heap.size wv
  go_loopw [5] (fun j wr => ∃ k : Nat, k ≤ n5 ∧ j = .int .i64 (k : Int) ∧ Below wv.heap.size wv wr) (fun j _ => n5 - (intOf j).toNat)
  case atStart => exact ⟨0, by omega, rfl, B0⟩
  case round =>
    clear B0
    obtain ⟨k, hk, rfl, B0⟩ := hrel
    rename World => wr
    by_cases hlt : k < n5
    · obtain ⟨b5, o5, x, rfl, cx, x0, x1, hx⟩ := (K5.out.below B0).int hlt
      obtain rfl : x = 0 := (by have h9 := hx.out; rw [HZ.out] at h9; exact List.eq_of_mem_replicate (List.mem_of_getElem? h9))
      clear hx
      go_wp2
      go_roundw
      case rel => exact ⟨k + 1, by omega, by go_num, B0⟩
      case measure => simp [intOf]; omega
    · obtain rfl : k = n5 := by omega
      replace BB := bon BB B0
      replace a4 := cell_below B0 a4
      clear B0
      go_wp2_with (first
        | (go_at_call 19; (with_reducible refine (CC.out _ ((K1.out.below BB).more BB.size)).mono ?_); rintro _ W7 ⟨rfl, B⟩; replace BB := bon BB B; clear B)
        | (go_at_call 14; (with_reducible refine (hexample_b _).mono ?_); rintro _ W9 ⟨rfl, B⟩; replace BB := bon BB B; clear B))
      go_ret
      exact ⟨rfl, BB⟩

set_option maxRecDepth 100000 in
set_option maxHeartbeats 4000000 in
theorem out_b4_neg_n (A0 A1 A2 : Option Addr) (n0 c0 n1 c1 n2 c2 : Nat) (l0 : List Int) (l1 : List At) (l2 : List Bf) (t i m v : Int) (w : World) (R0 : Rd w w.heap.size .u8 A0 n0 l0) (R1 : RdA w w.heap.size A1 n1 l1) (R2 : RdB w w.heap.size A2 n2 l2) (hn0 : n0 ≤ 9223372036854775807) (hn1 : n1 ≤ 9223372036854775807) (hs : isz t = 4) (hq : i < (n0 : Int) / 4) (hi : i < 0) (hv : vldb l1 = false) :
    Calls Try.prog 8 #[.agg #[.slice A0 n0 c0, .int .i64 t, .int .i64 i, .int .i64 m, .slice A1 n1 c1, .slice A2 n2 c2, .int .i64 v]] w fun e w' => e = .returned (.bool true) ∧ Below w.heap.size w w' := by
  have BB := box_below w #[.slice A0 n0 c0, .int .i64 t, .int .i64 i, .int .i64 m, .slice A1 n1 c1, .slice A2 n2 c2, .int .i64 v] 27
  have a0 := box_cell w #[.slice A0 n0 c0, .int .i64 t, .int .i64 i, .int .i64 m, .slice A1 n1 c1, .slice A2 n2 c2, .int .i64 v] 27 0 _ rfl
  have a1 := box_cell w #[.slice A0 n0 c0, .int .i64 t, .int .i64 i, .int .i64 m, .slice A1 n1 c1, .slice A2 n2 c2, .int .i64 v] 27 1 _ rfl
  have a2 := box_cell w #[.slice A0 n0 c0, .int .i64 t, .int .i64 i, .int .i64 m, .slice A1 n1 c1, .slice A2 n2 c2, .int .i64 v] 27 2 _ rfl
  have a4 := box_cell w #[.slice A0 n0 c0, .int .i64 t, .int .i64 i, .int .i64 m, .slice A1 n1 c1, .slice A2 n2 c2, .int .i64 v] 27 4 _ rfl
  have a6 := box_cell w #[.slice A0 n0 c0, .int .i64 t, .int .i64 i, .int .i64 m, .slice A1 n1 c1, .slice A2 n2 c2, .int .i64 v] 27 6 _ rfl
  have K0 := Lib.hid R0
  have K1 := Lib.hid R1
  have CS := Lib.hid (fun W => of_q (isize_q t W))
  have CI := Lib.hid (fun W R => index_b A0 n0 c0 l0 t i W R hn0)
  have CN := Lib.hid (fun W R => index_b A0 n0 c0 l0 1 i W R hn0)
  have CV := Lib.hid (fun W R => vertex_b A1 none n1 c1 0 0 l1 [] v W R (RdB.nil _ _ _) hn1)
  have CW := Lib.hid (fun W R => valid_b A1 n1 c1 l1 W R hn1)
  have HE : Hid (0 < isz t → (n0 : Int) / isz t ≤ i → idx l0 t i = 0) := Lib.hid fun h0 h1 => idx_end h0 (by rw [R0.len]; exact h1)
  rw [hs] at CS
  obtain ⟨Q, hQ⟩ : ∃ Q, (n0 : Int) / 4 = Q := ⟨_, rfl⟩
  have gq : IntKind.i64.wrap ((n0 : Int) / 4) = Q := by rw [hQ]; exact IntWalk.i64_in _ (by omega)
  rw [hQ] at hq
  have tq : decide (Q ≤ i) = false := decide_eq_false (by omega)
  clear hQ
  clear HE hs
  have ti : decide (0 ≤ i) = false := decide_eq_false (by omega)
  have HN : Hid ((if vldb l1 = true then vtx [] v l1 else []).length = 0) := Lib.hid (by rw [hv]; rfl)
  rw [hv] at CW
  obtain ⟨L, hL⟩ : ∃ L, (if vldb l1 = true then vtx [] v l1 else []) = L := ⟨_, rfl⟩
  rw [hL] at CV HN
  clear hL hv
  clear R0 R1 R2
  go_enter Try.func8, Try.ntmps8
  go_wp2_with (first | (go_at_call 17; refine (CS.out _).mono ?_; rintro _ _ ⟨rfl, B⟩; replace BB := bon BB B; replace a0 := cell_below B a0; replace a1 := cell_below B a1; replace a2 := cell_below B a2; replace a4 := cell_below B a4; replace a6 := cell_below B a6))
  have k_a0 := cell_regrown a0
  have k_a1 := cell_regrown a1
  have k_a2 := cell_regrown a2
  have k_a4 := cell_regrown a4
  have k_a6 := cell_regrown a6
  refine wp_region_quiet_below (by kernel_rfl) (by kernel_rfl) ?_
  repeat (first | go_big_quiet_step ((first | fail)) | quiet_step ((first | fail)))
  refine wpQuiet_nil ?_
  intro W hw'
  have B := below_regrown' hw'
  clear hw' k_a0 k_a1 k_a2 k_a4 k_a6
  replace BB := bon BB B
  replace a0 := cell_below B a0
  replace a1 := cell_below B a1
  replace a2 := cell_below B a2
  replace a4 := cell_below B a4
  replace a6 := cell_below B a6
  go_wp2
  have k_a0 := cell_regrown a0
  have k_a1 := cell_regrown a1
  have k_a2 := cell_regrown a2
  have k_a4 := cell_regrown a4
  have k_a6 := cell_regrown a6
  refine wp_region_quiet_below (by kernel_rfl) (by kernel_rfl) ?_
  repeat (first | go_big_quiet_step ((first | fail)) | quiet_step ((first | fail)))
  refine wpQuiet_nil ?_
  intro W hw'
  have B := below_regrown' hw'
  clear hw' k_a0 k_a1 k_a2 k_a4 k_a6
  replace BB := bon BB B
  replace a0 := cell_below B a0
  replace a1 := cell_below B a1
  replace a2 := cell_below B a2
  replace a4 := cell_below B a4
  replace a6 := cell_below B a6
  go_wp2_with (first
    | (go_at_call 12; (with_reducible refine (CV.out _ ((K1.out.below BB).more BB.size)).mono ?_); rintro _ W5 ⟨A5, n5, d5, rfl, _, R5, B⟩; obtain rfl : n5 = 0 := (by have q1 := R5.len; have q2 := HN.out; omega); have K5 := Lib.hid R5; replace BB := bon BB B; replace a4 := cell_below B a4; clear B R5)
    | (go_at_call 21; (with_reducible refine (CW.out _ ((K1.out.below BB).more BB.size)).mono ?_); rintro _ W6 ⟨rfl, B⟩; replace BB := bon BB B; replace a4 := cell_below B a4; replace K5 := Lib.hid (K5.out.on B); clear B)
    | (go_at_call 14; (with_reducible refine (hexample_b _).mono ?_); rintro _ W9 ⟨rfl, B⟩; replace BB := bon BB B; clear B))
  go_ret
  exact ⟨rfl, BB⟩

set_option maxRecDepth 100000 in
set_option maxHeartbeats 4000000 in
theorem out_b4_neg_y (A0 A1 A2 : Option Addr) (n0 c0 n1 c1 n2 c2 : Nat) (l0 : List Int) (l1 : List At) (l2 : List Bf) (t i m v : Int) (w : World) (R0 : Rd w w.heap.size .u8 A0 n0 l0) (R1 : RdA w w.heap.size A1 n1 l1) (R2 : RdB w w.heap.size A2 n2 l2) (hn0 : n0 ≤ 9223372036854775807) (hn1 : n1 ≤ 9223372036854775807) (hs : isz t = 4) (hq : i < (n0 : Int) / 4) (hi : i < 0) (hv : vldb l1 = true) :
    Calls Try.prog 8 #[.agg #[.slice A0 n0 c0, .int .i64 t, .int .i64 i, .int .i64 m, .slice A1 n1 c1, .slice A2 n2 c2, .int .i64 v]] w fun e w' => e = .returned (.bool true) ∧ Below w.heap.size w w' := by
  have BB := box_below w #[.slice A0 n0 c0, .int .i64 t, .int .i64 i, .int .i64 m, .slice A1 n1 c1, .slice A2 n2 c2, .int .i64 v] 27
  have a0 := box_cell w #[.slice A0 n0 c0, .int .i64 t, .int .i64 i, .int .i64 m, .slice A1 n1 c1, .slice A2 n2 c2, .int .i64 v] 27 0 _ rfl
  have a1 := box_cell w #[.slice A0 n0 c0, .int .i64 t, .int .i64 i, .int .i64 m, .slice A1 n1 c1, .slice A2 n2 c2, .int .i64 v] 27 1 _ rfl
  have a2 := box_cell w #[.slice A0 n0 c0, .int .i64 t, .int .i64 i, .int .i64 m, .slice A1 n1 c1, .slice A2 n2 c2, .int .i64 v] 27 2 _ rfl
  have a4 := box_cell w #[.slice A0 n0 c0, .int .i64 t, .int .i64 i, .int .i64 m, .slice A1 n1 c1, .slice A2 n2 c2, .int .i64 v] 27 4 _ rfl
  have a6 := box_cell w #[.slice A0 n0 c0, .int .i64 t, .int .i64 i, .int .i64 m, .slice A1 n1 c1, .slice A2 n2 c2, .int .i64 v] 27 6 _ rfl
  have K0 := Lib.hid R0
  have K1 := Lib.hid R1
  have CS := Lib.hid (fun W => of_q (isize_q t W))
  have CI := Lib.hid (fun W R => index_b A0 n0 c0 l0 t i W R hn0)
  have CN := Lib.hid (fun W R => index_b A0 n0 c0 l0 1 i W R hn0)
  have CV := Lib.hid (fun W R => vertex_b A1 none n1 c1 0 0 l1 [] v W R (RdB.nil _ _ _) hn1)
  have CW := Lib.hid (fun W R => valid_b A1 n1 c1 l1 W R hn1)
  have HE : Hid (0 < isz t → (n0 : Int) / isz t ≤ i → idx l0 t i = 0) := Lib.hid fun h0 h1 => idx_end h0 (by rw [R0.len]; exact h1)
  rw [hs] at CS
  obtain ⟨Q, hQ⟩ : ∃ Q, (n0 : Int) / 4 = Q := ⟨_, rfl⟩
  have gq : IntKind.i64.wrap ((n0 : Int) / 4) = Q := by rw [hQ]; exact IntWalk.i64_in _ (by omega)
  rw [hQ] at hq
  have tq : decide (Q ≤ i) = false := decide_eq_false (by omega)
  clear hQ
  clear HE hs
  have ti : decide (0 ≤ i) = false := decide_eq_false (by omega)
  have CC := Lib.hid (fun W R => comps_b A1 n1 c1 l1 W R (by have := (vldb_iff.1 hv).1; have := R1.len; omega))
  have HZ := Lib.hid (vtx_out (v := v) hv)
  rw [hv] at CW
  obtain ⟨L, hL⟩ : ∃ L, (if vldb l1 = true then vtx [] v l1 else []) = L := ⟨_, rfl⟩
  rw [hL] at CV
  rw [if_pos hv] at hL
  replace HZ : Hid (L = List.replicate (csum l1) 0) := Lib.hid (by rw [← hL]; exact HZ.out.1)
  obtain ⟨N, hN⟩ : ∃ N, csum l1 = N := ⟨_, rfl⟩
  rw [hN] at CC HZ
  have hN32 : N ≤ 32 := by rw [← hN]; exact (vtx_out (v := v) hv).2
  have HN : Hid (L.length = N) := Lib.hid (by rw [HZ.out, List.length_replicate])
  clear hL hN hv
  clear R0 R1 R2
  go_enter Try.func8, Try.ntmps8
  go_wp2_with (first | (go_at_call 17; refine (CS.out _).mono ?_; rintro _ _ ⟨rfl, B⟩; replace BB := bon BB B; replace a0 := cell_below B a0; replace a1 := cell_below B a1; replace a2 := cell_below B a2; replace a4 := cell_below B a4; replace a6 := cell_below B a6))
  have k_a0 := cell_regrown a0
  have k_a1 := cell_regrown a1
  have k_a2 := cell_regrown a2
  have k_a4 := cell_regrown a4
  have k_a6 := cell_regrown a6
  refine wp_region_quiet_below (by kernel_rfl) (by kernel_rfl) ?_
  repeat (first | go_big_quiet_step ((first | fail)) | quiet_step ((first | fail)))
  refine wpQuiet_nil ?_
  intro W hw'
  have B := below_regrown' hw'
  clear hw' k_a0 k_a1 k_a2 k_a4 k_a6
  replace BB := bon BB B
  replace a0 := cell_below B a0
  replace a1 := cell_below B a1
  replace a2 := cell_below B a2
  replace a4 := cell_below B a4
  replace a6 := cell_below B a6
  go_wp2
  have k_a0 := cell_regrown a0
  have k_a1 := cell_regrown a1
  have k_a2 := cell_regrown a2
  have k_a4 := cell_regrown a4
  have k_a6 := cell_regrown a6
  refine wp_region_quiet_below (by kernel_rfl) (by kernel_rfl) ?_
  repeat (first | go_big_quiet_step ((first | fail)) | quiet_step ((first | fail)))
  refine wpQuiet_nil ?_
  intro W hw'
  have B := below_regrown' hw'
  clear hw' k_a0 k_a1 k_a2 k_a4 k_a6
  replace BB := bon BB B
  replace a0 := cell_below B a0
  replace a1 := cell_below B a1
  replace a2 := cell_below B a2
  replace a4 := cell_below B a4
  replace a6 := cell_below B a6
  go_wp2_with (first
    | (go_at_call 12; (with_reducible refine (CV.out _ ((K1.out.below BB).more BB.size)).mono ?_); rintro _ W5 ⟨A5, n5, d5, rfl, _, R5, B⟩; obtain rfl : n5 = N := (by have q1 := R5.len; have q2 := HN.out; omega); have K5 := Lib.hid R5; replace BB := bon BB B; replace a4 := cell_below B a4; clear B R5)
    | (go_at_call 21; (with_reducible refine (CW.out _ ((K1.out.below BB).more BB.size)).mono ?_); rintro _ W6 ⟨rfl, B⟩; replace BB := bon BB B; replace a4 := cell_below B a4; replace K5 := Lib.hid (K5.out.on B); clear B)
    | (go_at_call 14; (with_reducible refine (hexample_b _).mono ?_); rintro _ W9 ⟨rfl, B⟩; replace BB := bon BB B; clear B))
  rename World => wv
  have B0 := Below.refl wv.heap.size wv
  go_loopw [5] (fun j wr => ∃ k : Nat, k ≤ n5 ∧ j = .int .i64 (k : Int) ∧ Below wv.heap.size wv wr) (fun j _ => n5 - (intOf j).toNat)
  case atStart => exact ⟨0, by omega, rfl, B0⟩
  case round =>
    clear B0
    obtain ⟨k, hk, rfl, B0⟩ := hrel
    rename World => wr
    by_cases hlt : k < n5
    · obtain ⟨b5, o5, x, rfl, cx, x0, x1, hx⟩ := (K5.out.below B0).int hlt
      obtain rfl : x = 0 := (by have h9 := hx.out; rw [HZ.out] at h9; exact List.eq_of_mem_replicate (List.mem_of_getElem? h9))
      clear hx
      go_wp2
      go_roundw
      case rel => exact ⟨k + 1, by omega, by go_num, B0⟩
      case measure => simp [intOf]; omega
    · obtain rfl : k = n5 := by omega
      replace BB := bon BB B0
      replace a4 := cell_below B0 a4
      clear B0
      go_wp2_with (first
        | (go_at_call 19; (with_reducible refine (CC.out _ ((K1.out.below BB).more BB.size)).mono ?_); rintro _ W7 ⟨rfl, B⟩; replace BB := bon BB B; clear B)
        | (go_at_call 14; (with_reducible refine (hexample_b _).mono ?_); rintro _ W9 ⟨rfl, B⟩; replace BB := bon BB B; clear B))
      go_ret
      exact ⟨rfl, BB⟩

set_option maxRecDepth 100000 in
set_option maxHeartbeats 4000000 in
theorem out_b4_pos_n (A0 A1 A2 : Option Addr) (n0 c0 n1 c1 n2 c2 : Nat) (l0 : List Int) (l1 : List At) (l2 : List Bf) (t i m v : Int) (w : World) (R0 : Rd w w.heap.size .u8 A0 n0 l0) (R1 : RdA w w.heap.size A1 n1 l1) (R2 : RdB w w.heap.size A2 n2 l2) (hn0 : n0 ≤ 9223372036854775807) (hn1 : n1 ≤ 9223372036854775807) (hs : isz t = 4) (hq : i < (n0 : Int) / 4) (hi : 0 ≤ i) (hv : vldb l1 = false) :
    Calls Try.prog 8 #[.agg #[.slice A0 n0 c0, .int .i64 t, .int .i64 i, .int .i64 m, .slice A1 n1 c1, .slice A2 n2 c2, .int .i64 v]] w fun e w' => e = .returned (.bool true) ∧ Below w.heap.size w w' := by
  have BB := box_below w #[.slice A0 n0 c0, .int .i64 t, .int .i64 i, .int .i64 m, .slice A1 n1 c1, .slice A2 n2 c2, .int .i64 v] 27
  have a0 := box_cell w #[.slice A0 n0 c0, .int .i64 t, .int .i64 i, .int .i64 m, .slice A1 n1 c1, .slice A2 n2 c2, .int .i64 v] 27 0 _ rfl
  have a1 := box_cell w #[.slice A0 n0 c0, .int .i64 t, .int .i64 i, .int .i64 m, .slice A1 n1 c1, .slice A2 n2 c2, .int .i64 v] 27 1 _ rfl
  have a2 := box_cell w #[.slice A0 n0 c0, .int .i64 t, .int .i64 i, .int .i64 m, .slice A1 n1 c1, .slice A2 n2 c2, .int .i64 v] 27 2 _ rfl
  have a4 := box_cell w #[.slice A0 n0 c0, .int .i64 t, .int .i64 i, .int .i64 m, .slice A1 n1 c1, .slice A2 n2 c2, .int .i64 v] 27 4 _ rfl
  have a6 := box_cell w #[.slice A0 n0 c0, .int .i64 t, .int .i64 i, .int .i64 m, .slice A1 n1 c1, .slice A2 n2 c2, .int .i64 v] 27 6 _ rfl
  have K0 := Lib.hid R0
  have K1 := Lib.hid R1
  have CS := Lib.hid (fun W => of_q (isize_q t W))
  have CI := Lib.hid (fun W R => index_b A0 n0 c0 l0 t i W R hn0)
  have CN := Lib.hid (fun W R => index_b A0 n0 c0 l0 1 i W R hn0)
  have CV := Lib.hid (fun W R => vertex_b A1 none n1 c1 0 0 l1 [] v W R (RdB.nil _ _ _) hn1)
  have CW := Lib.hid (fun W R => valid_b A1 n1 c1 l1 W R hn1)
  have HE : Hid (0 < isz t → (n0 : Int) / isz t ≤ i → idx l0 t i = 0) := Lib.hid fun h0 h1 => idx_end h0 (by rw [R0.len]; exact h1)
  rw [hs] at CS
  obtain ⟨Q, hQ⟩ : ∃ Q, (n0 : Int) / 4 = Q := ⟨_, rfl⟩
  have gq : IntKind.i64.wrap ((n0 : Int) / 4) = Q := by rw [hQ]; exact IntWalk.i64_in _ (by omega)
  rw [hQ] at hq
  have tq : decide (Q ≤ i) = false := decide_eq_false (by omega)
  clear hQ
  clear HE hs
  rw [idx_no l0 hi] at CN
  have ti : decide (0 ≤ i) = true := decide_eq_true hi
  have HN : Hid ((if vldb l1 = true then vtx [] v l1 else []).length = 0) := Lib.hid (by rw [hv]; rfl)
  rw [hv] at CW
  obtain ⟨L, hL⟩ : ∃ L, (if vldb l1 = true then vtx [] v l1 else []) = L := ⟨_, rfl⟩
  rw [hL] at CV HN
  clear hL hv
  clear R0 R1 R2
  go_enter Try.func8, Try.ntmps8
  go_wp2_with (first | (go_at_call 17; refine (CS.out _).mono ?_; rintro _ _ ⟨rfl, B⟩; replace BB := bon BB B; replace a0 := cell_below B a0; replace a1 := cell_below B a1; replace a2 := cell_below B a2; replace a4 := cell_below B a4; replace a6 := cell_below B a6))
  have k_a0 := cell_regrown a0
  have k_a1 := cell_regrown a1
  have k_a2 := cell_regrown a2
  have k_a4 := cell_regrown a4
  have k_a6 := cell_regrown a6
  refine wp_region_quiet_below (by kernel_rfl) (by kernel_rfl) ?_
  repeat (first | go_big_quiet_step ((first | fail)) | quiet_step ((first | fail)))
  refine wpQuiet_nil ?_
  intro W hw'
  have B := below_regrown' hw'
  clear hw' k_a0 k_a1 k_a2 k_a4 k_a6
  replace BB := bon BB B
  replace a0 := cell_below B a0
  replace a1 := cell_below B a1
  replace a2 := cell_below B a2
  replace a4 := cell_below B a4
  replace a6 := cell_below B a6
  go_wp2
  refine wp_region_grow [0, 1, 2, 3, 4, 5, 6, 7, 9, 10, 8, 11, 12] (by kernel_rfl) (by kernel_rfl) ?_
  intro W B
  replace BB := bon BB B
  replace a0 := cell_below B a0
  replace a1 := cell_below B a1
  replace a2 := cell_below B a2
  replace a4 := cell_below B a4
  replace a6 := cell_below B a6
  clear B
  have k_a0 := cell_regrown a0
  have k_a1 := cell_regrown a1
  have k_a2 := cell_regrown a2
  have k_a4 := cell_regrown a4
  have k_a6 := cell_regrown a6
  refine grow_read rfl rfl ?_
  (first | go_big_quiet_step (fail) | quiet_step (fail))
  refine wpQuiet_nil ?_
  refine grow_read rfl rfl ?_
  (first | go_big_quiet_step (fail) | quiet_step (fail))
  refine wpQuiet_nil ?_
  refine grow_read rfl rfl ?_
  (first | go_big_quiet_step (fail) | quiet_step (fail))
  refine wpQuiet_nil ?_
  refine grow_read rfl rfl ?_
  (first | go_big_quiet_step (fail) | quiet_step (fail))
  refine wpQuiet_nil ?_
  refine grow_read rfl rfl ?_
  (first | go_big_quiet_step (fail) | quiet_step (fail))
  refine wpQuiet_nil ?_
  refine grow_read rfl rfl ?_
  (first | go_big_quiet_step (fail) | quiet_step (fail))
  refine wpQuiet_nil ?_
  refine grow_read rfl rfl ?_
  (first | go_big_quiet_step (fail) | quiet_step (fail))
  refine wpQuiet_nil ?_
  refine grow_read rfl rfl ?_
  (first | go_big_quiet_step (fail) | quiet_step (fail))
  refine wpQuiet_nil ?_
  refine grow_read rfl rfl ?_
  (first | go_big_quiet_step (fail) | quiet_step (fail))
  refine wpQuiet_nil ?_
  refine grow_read rfl rfl ?_
  (first | go_big_quiet_step (fail) | quiet_step (fail))
  refine wpQuiet_nil ?_
  clear k_a0 k_a1 k_a2 k_a4 k_a6
  refine grow_call rfl rfl ?_
  go_wp2_with (go_at_call 9; refine (CN.out _ ((K0.out.below BB).more BB.size)).mono ?_; rintro _ _ ⟨rfl, B⟩; replace BB := bon BB B; replace a0 := cell_below B a0; replace a1 := cell_below B a1; replace a2 := cell_below B a2; replace a4 := cell_below B a4; replace a6 := cell_below B a6)
  refine ⟨Grows.of B, ?_⟩
  clear B
  have k_a0 := cell_regrown a0
  have k_a1 := cell_regrown a1
  have k_a2 := cell_regrown a2
  have k_a4 := cell_regrown a4
  have k_a6 := cell_regrown a6
  refine grow_read rfl rfl ?_
  (first | go_big_quiet_step (fail) | quiet_step (fail))
  refine wpQuiet_nil ?_
  refine grow_read rfl rfl ?_
  (first | go_big_quiet_step (fail) | quiet_step (fail))
  refine wpQuiet_nil ?_
  clear k_a0 k_a1 k_a2 k_a4 k_a6
  refine grow_nil ?_
  go_wp2_with (first
    | (go_at_call 12; (with_reducible refine (CV.out _ ((K1.out.below BB).more BB.size)).mono ?_); rintro _ W5 ⟨A5, n5, d5, rfl, _, R5, B⟩; obtain rfl : n5 = 0 := (by have q1 := R5.len; have q2 := HN.out; omega); have K5 := Lib.hid R5; replace BB := bon BB B; replace a4 := cell_below B a4; clear B R5)
    | (go_at_call 21; (with_reducible refine (CW.out _ ((K1.out.below BB).more BB.size)).mono ?_); rintro _ W6 ⟨rfl, B⟩; replace BB := bon BB B; replace a4 := cell_below B a4; replace K5 := Lib.hid (K5.out.on B); clear B)
    | (go_at_call 14; (with_reducible refine (hexample_b _).mono ?_); rintro _ W9 ⟨rfl, B⟩; replace BB := bon BB B; clear B))
  go_ret
  exact ⟨rfl, BB⟩

set_option maxRecDepth 100000 in
set_option maxHeartbeats 4000000 in
theorem out_b4_pos_y (A0 A1 A2 : Option Addr) (n0 c0 n1 c1 n2 c2 : Nat) (l0 : List Int) (l1 : List At) (l2 : List Bf) (t i m v : Int) (w : World) (R0 : Rd w w.heap.size .u8 A0 n0 l0) (R1 : RdA w w.heap.size A1 n1 l1) (R2 : RdB w w.heap.size A2 n2 l2) (hn0 : n0 ≤ 9223372036854775807) (hn1 : n1 ≤ 9223372036854775807) (hs : isz t = 4) (hq : i < (n0 : Int) / 4) (hi : 0 ≤ i) (hv : vldb l1 = true) :
    Calls Try.prog 8 #[.agg #[.slice A0 n0 c0, .int .i64 t, .int .i64 i, .int .i64 m, .slice A1 n1 c1, .slice A2 n2 c2, .int .i64 v]] w fun e w' => e = .returned (.bool true) ∧ Below w.heap.size w w' := by
  have BB := box_below w #[.slice A0 n0 c0, .int .i64 t, .int .i64 i, .int .i64 m, .slice A1 n1 c1, .slice A2 n2 c2, .int .i64 v] 27
  have a0 := box_cell w #[.slice A0 n0 c0, .int .i64 t, .int .i64 i, .int .i64 m, .slice A1 n1 c1, .slice A2 n2 c2, .int .i64 v] 27 0 _ rfl
  have a1 := box_cell w #[.slice A0 n0 c0, .int .i64 t, .int .i64 i, .int .i64 m, .slice A1 n1 c1, .slice A2 n2 c2, .int .i64 v] 27 1 _ rfl
  have a2 := box_cell w #[.slice A0 n0 c0, .int .i64 t, .int .i64 i, .int .i64 m, .slice A1 n1 c1, .slice A2 n2 c2, .int .i64 v] 27 2 _ rfl
  have a4 := box_cell w #[.slice A0 n0 c0, .int .i64 t, .int .i64 i, .int .i64 m, .slice A1 n1 c1, .slice A2 n2 c2, .int .i64 v] 27 4 _ rfl
  have a6 := box_cell w #[.slice A0 n0 c0, .int .i64 t, .int .i64 i, .int .i64 m, .slice A1 n1 c1, .slice A2 n2 c2, .int .i64 v] 27 6 _ rfl
  have K0 := Lib.hid R0
  have K1 := Lib.hid R1
  have CS := Lib.hid (fun W => of_q (isize_q t W))
  have CI := Lib.hid (fun W R => index_b A0 n0 c0 l0 t i W R hn0)
  have CN := Lib.hid (fun W R => index_b A0 n0 c0 l0 1 i W R hn0)
  have CV := Lib.hid (fun W R => vertex_b A1 none n1 c1 0 0 l1 [] v W R (RdB.nil _ _ _) hn1)
  have CW := Lib.hid (fun W R => valid_b A1 n1 c1 l1 W R hn1)
  have HE : Hid (0 < isz t → (n0 : Int) / isz t ≤ i → idx l0 t i = 0) := Lib.hid fun h0 h1 => idx_end h0 (by rw [R0.len]; exact h1)
  rw [hs] at CS
  obtain ⟨Q, hQ⟩ : ∃ Q, (n0 : Int) / 4 = Q := ⟨_, rfl⟩
  have gq : IntKind.i64.wrap ((n0 : Int) / 4) = Q := by rw [hQ]; exact IntWalk.i64_in _ (by omega)
  rw [hQ] at hq
  have tq : decide (Q ≤ i) = false := decide_eq_false (by omega)
  clear hQ
  clear HE hs
  rw [idx_no l0 hi] at CN
  have ti : decide (0 ≤ i) = true := decide_eq_true hi
  have CC := Lib.hid (fun W R => comps_b A1 n1 c1 l1 W R (by have := (vldb_iff.1 hv).1; have := R1.len; omega))
  have HZ := Lib.hid (vtx_out (v := v) hv)
  rw [hv] at CW
  obtain ⟨L, hL⟩ : ∃ L, (if vldb l1 = true then vtx [] v l1 else []) = L := ⟨_, rfl⟩
  rw [hL] at CV
  rw [if_pos hv] at hL
  replace HZ : Hid (L = List.replicate (csum l1) 0) := Lib.hid (by rw [← hL]; exact HZ.out.1)
  obtain ⟨N, hN⟩ : ∃ N, csum l1 = N := ⟨_, rfl⟩
  rw [hN] at CC HZ
  have hN32 : N ≤ 32 := by rw [← hN]; exact (vtx_out (v := v) hv).2
  have HN : Hid (L.length = N) := Lib.hid (by rw [HZ.out, List.length_replicate])
  clear hL hN hv
  clear R0 R1 R2
  go_enter Try.func8, Try.ntmps8
  go_wp2_with (first | (go_at_call 17; refine (CS.out _).mono ?_; rintro _ _ ⟨rfl, B⟩; replace BB := bon BB B; replace a0 := cell_below B a0; replace a1 := cell_below B a1; replace a2 := cell_below B a2; replace a4 := cell_below B a4; replace a6 := cell_below B a6))
  have k_a0 := cell_regrown a0
  have k_a1 := cell_regrown a1
  have k_a2 := cell_regrown a2
  have k_a4 := cell_regrown a4
  have k_a6 := cell_regrown a6
  refine wp_region_quiet_below (by kernel_rfl) (by kernel_rfl) ?_
  repeat (first | go_big_quiet_step ((first | fail)) | quiet_step ((first | fail)))
  refine wpQuiet_nil ?_
  intro W hw'
  have B := below_regrown' hw'
  clear hw' k_a0 k_a1 k_a2 k_a4 k_a6
  replace BB := bon BB B
  replace a0 := cell_below B a0
  replace a1 := cell_below B a1
  replace a2 := cell_below B a2
  replace a4 := cell_below B a4
  replace a6 := cell_below B a6
  go_wp2
  refine wp_region_grow [0, 1, 2, 3, 4, 5, 6, 7, 9, 10, 8, 11, 12] (by kernel_rfl) (by kernel_rfl) ?_
  intro W B
  replace BB := bon BB B
  replace a0 := cell_below B a0
  replace a1 := cell_below B a1
  replace a2 := cell_below B a2
  replace a4 := cell_below B a4
  replace a6 := cell_below B a6
  clear B
  have k_a0 := cell_regrown a0
  have k_a1 := cell_regrown a1
  have k_a2 := cell_regrown a2
  have k_a4 := cell_regrown a4
  have k_a6 := cell_regrown a6
  refine grow_read rfl rfl ?_
  (first | go_big_quiet_step (fail) | quiet_step (fail))
  refine wpQuiet_nil ?_
  refine grow_read rfl rfl ?_
  (first | go_big_quiet_step (fail) | quiet_step (fail))
  refine wpQuiet_nil ?_
  refine grow_read rfl rfl ?_
  (first | go_big_quiet_step (fail) | quiet_step (fail))
  refine wpQuiet_nil ?_
  refine grow_read rfl rfl ?_
  (first | go_big_quiet_step (fail) | quiet_step (fail))
  refine wpQuiet_nil ?_
  refine grow_read rfl rfl ?_
  (first | go_big_quiet_step (fail) | quiet_step (fail))
  refine wpQuiet_nil ?_
  refine grow_read rfl rfl ?_
  (first | go_big_quiet_step (fail) | quiet_step (fail))
  refine wpQuiet_nil ?_
  refine grow_read rfl rfl ?_
  (first | go_big_quiet_step (fail) | quiet_step (fail))
  refine wpQuiet_nil ?_
  refine grow_read rfl rfl ?_
  (first | go_big_quiet_step (fail) | quiet_step (fail))
  refine wpQuiet_nil ?_
  refine grow_read rfl rfl ?_
  (first | go_big_quiet_step (fail) | quiet_step (fail))
  refine wpQuiet_nil ?_
  refine grow_read rfl rfl ?_
  (first | go_big_quiet_step (fail) | quiet_step (fail))
  refine wpQuiet_nil ?_
  clear k_a0 k_a1 k_a2 k_a4 k_a6
  refine grow_call rfl rfl ?_
  go_wp2_with (go_at_call 9; refine (CN.out _ ((K0.out.below BB).more BB.size)).mono ?_; rintro _ _ ⟨rfl, B⟩; replace BB := bon BB B; replace a0 := cell_below B a0; replace a1 := cell_below B a1; replace a2 := cell_below B a2; replace a4 := cell_below B a4; replace a6 := cell_below B a6)
  refine ⟨Grows.of B, ?_⟩
  clear B
  have k_a0 := cell_regrown a0
  have k_a1 := cell_regrown a1
  have k_a2 := cell_regrown a2
  have k_a4 := cell_regrown a4
  have k_a6 := cell_regrown a6
  refine grow_read rfl rfl ?_
  (first | go_big_quiet_step (fail) | quiet_step (fail))
  refine wpQuiet_nil ?_
  refine grow_read rfl rfl ?_
  (first | go_big_quiet_step (fail) | quiet_step (fail))
  refine wpQuiet_nil ?_
  clear k_a0 k_a1 k_a2 k_a4 k_a6
  refine grow_nil ?_
  go_wp2_with (first
    | (go_at_call 12; (with_reducible refine (CV.out _ ((K1.out.below BB).more BB.size)).mono ?_); rintro _ W5 ⟨A5, n5, d5, rfl, _, R5, B⟩; obtain rfl : n5 = N := (by have q1 := R5.len; have q2 := HN.out; omega); have K5 := Lib.hid R5; replace BB := bon BB B; replace a4 := cell_below B a4; clear B R5)
    | (go_at_call 21; (with_reducible refine (CW.out _ ((K1.out.below BB).more BB.size)).mono ?_); rintro _ W6 ⟨rfl, B⟩; replace BB := bon BB B; replace a4 := cell_below B a4; replace K5 := Lib.hid (K5.out.on B); clear B)
    | (go_at_call 14; (with_reducible refine (hexample_b _).mono ?_); rintro _ W9 ⟨rfl, B⟩; replace BB := bon BB B; clear B))
  rename World => wv
  have B0 := Below.refl wv.heap.size wv
  go_loopw [5] (fun j wr => ∃ k : Nat, k ≤ n5 ∧ j = .int .i64 (k : Int) ∧ Below wv.heap.size wv wr) (fun j _ => n5 - (intOf j).toNat)
  case atStart => exact ⟨0, by omega, rfl, B0⟩
  case round =>
    clear B0
    obtain ⟨k, hk, rfl, B0⟩ := hrel
    rename World => wr
    by_cases hlt : k < n5
    · obtain ⟨b5, o5, x, rfl, cx, x0, x1, hx⟩ := (K5.out.below B0).int hlt
      obtain rfl : x = 0 := (by have h9 := hx.out; rw [HZ.out] at h9; exact List.eq_of_mem_replicate (List.mem_of_getElem? h9))
      clear hx
      go_wp2
      go_roundw
      case rel => exact ⟨k + 1, by omega, by go_num, B0⟩
      case measure => simp [intOf]; omega
    · obtain rfl : k = n5 := by omega
      replace BB := bon BB B0
      replace a4 := cell_below B0 a4
      clear B0
      go_wp2_with (first
        | (go_at_call 19; (with_reducible refine (CC.out _ ((K1.out.below BB).more BB.size)).mono ?_); rintro _ W7 ⟨rfl, B⟩; replace BB := bon BB B; clear B)
        | (go_at_call 14; (with_reducible refine (hexample_b _).mono ?_); rintro _ W9 ⟨rfl, B⟩; replace BB := bon BB B; clear B))
      go_ret
      exact ⟨rfl, BB⟩

set_option maxRecDepth 100000 in
set_option maxHeartbeats 4000000 in
theorem out_c4_pos_n (A0 A1 A2 : Option Addr) (n0 c0 n1 c1 n2 c2 : Nat) (l0 : List Int) (l1 : List At) (l2 : List Bf) (t i m v : Int) (w : World) (R0 : Rd w w.heap.size .u8 A0 n0 l0) (R1 : RdA w w.heap.size A1 n1 l1) (R2 : RdB w w.heap.size A2 n2 l2) (hn0 : n0 ≤ 9223372036854775807) (hn1 : n1 ≤ 9223372036854775807) (hs : isz t = 4) (hq : (n0 : Int) / 4 ≤ i) (hi : 0 ≤ i) (hv : vldb l1 = false) :
    Calls Try.prog 8 #[.agg #[.slice A0 n0 c0, .int .i64 t, .int .i64 i, .int .i64 m, .slice A1 n1 c1, .slice A2 n2 c2, .int .i64 v]] w fun e w' => e = .returned (.bool true) ∧ Below w.heap.size w w' := by
  have BB := box_below w #[.slice A0 n0 c0, .int .i64 t, .int .i64 i, .int .i64 m, .slice A1 n1 c1, .slice A2 n2 c2, .int .i64 v] 27
  have a0 := box_cell w #[.slice A0 n0 c0, .int .i64 t, .int .i64 i, .int .i64 m, .slice A1 n1 c1, .slice A2 n2 c2, .int .i64 v] 27 0 _ rfl
  have a1 := box_cell w #[.slice A0 n0 c0, .int .i64 t, .int .i64 i, .int .i64 m, .slice A1 n1 c1, .slice A2 n2 c2, .int .i64 v] 27 1 _ rfl
  have a2 := box_cell w #[.slice A0 n0 c0, .int .i64 t, .int .i64 i, .int .i64 m, .slice A1 n1 c1, .slice A2 n2 c2, .int .i64 v] 27 2 _ rfl
  have a4 := box_cell w #[.slice A0 n0 c0, .int .i64 t, .int .i64 i, .int .i64 m, .slice A1 n1 c1, .slice A2 n2 c2, .int .i64 v] 27 4 _ rfl
  have a6 := box_cell w #[.slice A0 n0 c0, .int .i64 t, .int .i64 i, .int .i64 m, .slice A1 n1 c1, .slice A2 n2 c2, .int .i64 v] 27 6 _ rfl
  have K0 := Lib.hid R0
  have K1 := Lib.hid R1
  have CS := Lib.hid (fun W => of_q (isize_q t W))
  have CI := Lib.hid (fun W R => index_b A0 n0 c0 l0 t i W R hn0)
  have CN := Lib.hid (fun W R => index_b A0 n0 c0 l0 1 i W R hn0)
  have CV := Lib.hid (fun W R => vertex_b A1 none n1 c1 0 0 l1 [] v W R (RdB.nil _ _ _) hn1)
  have CW := Lib.hid (fun W R => valid_b A1 n1 c1 l1 W R hn1)
  have HE : Hid (0 < isz t → (n0 : Int) / isz t ≤ i → idx l0 t i = 0) := Lib.hid fun h0 h1 => idx_end h0 (by rw [R0.len]; exact h1)
  have hz := HE.out (by rw [hs]; decide) (by rw [hs]; exact hq)
  rw [hs] at CS
  rw [hz] at CI
  obtain ⟨Q, hQ⟩ : ∃ Q, (n0 : Int) / 4 = Q := ⟨_, rfl⟩
  have gq : IntKind.i64.wrap ((n0 : Int) / 4) = Q := by rw [hQ]; exact IntWalk.i64_in _ (by omega)
  rw [hQ] at hq
  have tq : decide (Q ≤ i) = true := decide_eq_true (by omega)
  clear hQ
  clear HE hs hz
  rw [idx_no l0 hi] at CN
  have ti : decide (0 ≤ i) = true := decide_eq_true hi
  have HN : Hid ((if vldb l1 = true then vtx [] v l1 else []).length = 0) := Lib.hid (by rw [hv]; rfl)
  rw [hv] at CW
  obtain ⟨L, hL⟩ : ∃ L, (if vldb l1 = true then vtx [] v l1 else []) = L := ⟨_, rfl⟩
  rw [hL] at CV HN
  clear hL hv
  clear R0 R1 R2
  go_enter Try.func8, Try.ntmps8
  go_wp2_with (first | (go_at_call 17; refine (CS.out _).mono ?_; rintro _ _ ⟨rfl, B⟩; replace BB := bon BB B; replace a0 := cell_below B a0; replace a1 := cell_below B a1; replace a2 := cell_below B a2; replace a4 := cell_below B a4; replace a6 := cell_below B a6))
  refine wp_region_grow [0, 1, 2, 3, 4, 5, 6, 7, 8, 9, 10, 11, 12, 13, 14, 15, 16, 17, 18, 19, 20, 21] (by kernel_rfl) (by kernel_rfl) ?_
  intro W B
  replace BB := bon BB B
  replace a0 := cell_below B a0
  replace a1 := cell_below B a1
  replace a2 := cell_below B a2
  replace a4 := cell_below B a4
  replace a6 := cell_below B a6
  clear B
  have k_a0 := cell_regrown a0
  have k_a1 := cell_regrown a1
  have k_a2 := cell_regrown a2
  have k_a4 := cell_regrown a4
  have k_a6 := cell_regrown a6
  refine grow_read rfl rfl ?_
  (first | go_big_quiet_step (fail) | quiet_step (fail))
  refine wpQuiet_nil ?_
  refine grow_read rfl rfl ?_
  (first | go_big_quiet_step (fail) | quiet_step (fail))
  refine wpQuiet_nil ?_
  refine grow_read rfl rfl ?_
  (first | go_big_quiet_step (fail) | quiet_step (fail))
  refine wpQuiet_nil ?_
  refine grow_read rfl rfl ?_
  (first | go_big_quiet_step (fail) | quiet_step (fail))
  refine wpQuiet_nil ?_
  refine grow_read rfl rfl ?_
  (first | go_big_quiet_step (fail) | quiet_step (fail))
  refine wpQuiet_nil ?_
  refine grow_read rfl rfl ?_
  (first | go_big_quiet_step (fail) | quiet_step (fail))
  refine wpQuiet_nil ?_
  refine grow_read rfl rfl ?_
  (first | go_big_quiet_step (fail) | quiet_step (fail))
  refine wpQuiet_nil ?_
  refine grow_read rfl rfl ?_
  (first | go_big_quiet_step (fail) | quiet_step (fail))
  refine wpQuiet_nil ?_
  refine grow_read rfl rfl ?_
  (first | go_big_quiet_step (fail) | quiet_step (fail))
  refine wpQuiet_nil ?_
  refine grow_read rfl rfl ?_
  (first | go_big_quiet_step (fail) | quiet_step (fail))
  refine wpQuiet_nil ?_
  refine grow_read rfl rfl ?_
  (first | go_big_quiet_step (fail) | quiet_step (fail))
  refine wpQuiet_nil ?_
  refine grow_read rfl rfl ?_
  (first | go_big_quiet_step (fail) | quiet_step (fail))
  refine wpQuiet_nil ?_
  refine grow_read rfl rfl ?_
  (first | go_big_quiet_step (fail) | quiet_step (fail))
  refine wpQuiet_nil ?_
  refine grow_read rfl rfl ?_
  (first | go_big_quiet_step (fail) | quiet_step (fail))
  refine wpQuiet_nil ?_
  refine grow_read rfl rfl ?_
  (first | go_big_quiet_step (fail) | quiet_step (fail))
  refine wpQuiet_nil ?_
  refine grow_read rfl rfl ?_
  (first | go_big_quiet_step (fail) | quiet_step (fail))
  refine wpQuiet_nil ?_
  refine grow_read rfl rfl ?_
  (first | go_big_quiet_step (fail) | quiet_step (fail))
  refine wpQuiet_nil ?_
  refine grow_read rfl rfl ?_
  (first | go_big_quiet_step (fail) | quiet_step (fail))
  refine wpQuiet_nil ?_
  refine grow_read rfl rfl ?_
  (first | go_big_quiet_step (fail) | quiet_step (fail))
  refine wpQuiet_nil ?_
  clear k_a0 k_a1 k_a2 k_a4 k_a6
  refine grow_call rfl rfl ?_
  go_wp2_with (go_at_call 9; refine (CI.out _ ((K0.out.below BB).more BB.size)).mono ?_; rintro _ _ ⟨rfl, B⟩; replace BB := bon BB B; replace a0 := cell_below B a0; replace a1 := cell_below B a1; replace a2 := cell_below B a2; replace a4 := cell_below B a4; replace a6 := cell_below B a6)
  refine ⟨Grows.of B, ?_⟩
  clear B
  have k_a0 := cell_regrown a0
  have k_a1 := cell_regrown a1
  have k_a2 := cell_regrown a2
  have k_a4 := cell_regrown a4
  have k_a6 := cell_regrown a6
  refine grow_read rfl rfl ?_
  (first | go_big_quiet_step (fail) | quiet_step (fail))
  refine wpQuiet_nil ?_
  refine grow_read rfl rfl ?_
  (first | go_big_quiet_step (fail) | quiet_step (fail))
  refine wpQuiet_nil ?_
  clear k_a0 k_a1 k_a2 k_a4 k_a6
  refine grow_nil ?_
  go_wp2
  refine wp_region_grow [0, 1, 2, 3, 4, 5, 6, 7, 9, 10, 8, 11, 12] (by kernel_rfl) (by kernel_rfl) ?_
  intro W B
  replace BB := bon BB B
  replace a0 := cell_below B a0
  replace a1 := cell_below B a1
  replace a2 := cell_below B a2
  replace a4 := cell_below B a4
  replace a6 := cell_below B a6
  clear B
  have k_a0 := cell_regrown a0
  have k_a1 := cell_regrown a1
  have k_a2 := cell_regrown a2
  have k_a4 := cell_regrown a4
  have k_a6 := cell_regrown a6
  refine grow_read rfl rfl ?_
  (first | go_big_quiet_step (fail) | quiet_step (fail))
  refine wpQuiet_nil ?_
  refine grow_read rfl rfl ?_
  (first | go_big_quiet_step (fail) | quiet_step (fail))
  refine wpQuiet_nil ?_
  refine grow_read rfl rfl ?_
  (first | go_big_quiet_step (fail) | quiet_step (fail))
  refine wpQuiet_nil ?_
  refine grow_read rfl rfl ?_
  (first | go_big_quiet_step (fail) | quiet_step (fail))
  refine wpQuiet_nil ?_
  refine grow_read rfl rfl ?_
  (first | go_big_quiet_step (fail) | quiet_step (fail))
  refine wpQuiet_nil ?_
  refine grow_read rfl rfl ?_
  (first | go_big_quiet_step (fail) | quiet_step (fail))
  refine wpQuiet_nil ?_
  refine grow_read rfl rfl ?_
  (first | go_big_quiet_step (fail) | quiet_step (fail))
  refine wpQuiet_nil ?_
  refine grow_read rfl rfl ?_
  (first | go_big_quiet_step (fail) | quiet_step (fail))
  refine wpQuiet_nil ?_
  refine grow_read rfl rfl ?_
  (first | go_big_quiet_step (fail) | quiet_step (fail))
  refine wpQuiet_nil ?_
  refine grow_read rfl rfl ?_
  (first | go_big_quiet_step (fail) | quiet_step (fail))
  refine wpQuiet_nil ?_
  clear k_a0 k_a1 k_a2 k_a4 k_a6
  refine grow_call rfl rfl ?_
  go_wp2_with (go_at_call 9; refine (CN.out _ ((K0.out.below BB).more BB.size)).mono ?_; rintro _ _ ⟨rfl, B⟩; replace BB := bon BB B; replace a0 := cell_below B a0; replace a1 := cell_below B a1; replace a2 := cell_below B a2; replace a4 := cell_below B a4; replace a6 := cell_below B a6)
  refine ⟨Grows.of B, ?_⟩
  clear B
  have k_a0 := cell_regrown a0
  have k_a1 := cell_regrown a1
  have k_a2 := cell_regrown a2
  have k_a4 := cell_regrown a4
  have k_a6 := cell_regrown a6
  refine grow_read rfl rfl ?_
  (first | go_big_quiet_step (fail) | quiet_step (fail))
  refine wpQuiet_nil ?_
  refine grow_read rfl rfl ?_
  (first | go_big_quiet_step (fail) | quiet_step (fail))
  refine wpQuiet_nil ?_
  clear k_a0 k_a1 k_a2 k_a4 k_a6
  refine grow_nil ?_
  go_wp2_with (first
    | (go_at_call 12; (with_reducible refine (CV.out _ ((K1.out.below BB).more BB.size)).mono ?_); rintro _ W5 ⟨A5, n5, d5, rfl, _, R5, B⟩; obtain rfl : n5 = 0 := (by have q1 := R5.len; have q2 := HN.out; omega); have K5 := Lib.hid R5; replace BB := bon BB B; replace a4 := cell_below B a4; clear B R5)
    | (go_at_call 21; (with_reducible refine (CW.out _ ((K1.out.below BB).more BB.size)).mono ?_); rintro _ W6 ⟨rfl, B⟩; replace BB := bon BB B; replace a4 := cell_below B a4; replace K5 := Lib.hid (K5.out.on B); clear B)
    | (go_at_call 14; (with_reducible refine (hexample_b _).mono ?_); rintro _ W9 ⟨rfl, B⟩; replace BB := bon BB B; clear B))
  go_ret
  exact ⟨rfl, BB⟩

set_option maxRecDepth 100000 in
set_option maxHeartbeats 4000000 in
theorem out_c4_pos_y (A0 A1 A2 : Option Addr) (n0 c0 n1 c1 n2 c2 : Nat) (l0 : List Int) (l1 : List At) (l2 : List Bf) (t i m v : Int) (w : World) (R0 : Rd w w.heap.size .u8 A0 n0 l0) (R1 : RdA w w.heap.size A1 n1 l1) (R2 : RdB w w.heap.size A2 n2 l2) (hn0 : n0 ≤ 9223372036854775807) (hn1 : n1 ≤ 9223372036854775807) (hs : isz t = 4) (hq : (n0 : Int) / 4 ≤ i) (hi : 0 ≤ i) (hv : vldb l1 = true) :
    Calls Try.prog 8 #[.agg #[.slice A0 n0 c0, .int .i64 t, .int .i64 i, .int .i64 m, .slice A1 n1 c1, .slice A2 n2 c2, .int .i64 v]] w fun e w' => e = .returned (.bool true) ∧ Below w.heap.size w w' := by
  have BB := box_below w #[.slice A0 n0 c0, .int .i64 t, .int .i64 i, .int .i64 m, .slice A1 n1 c1, .slice A2 n2 c2, .int .i64 v] 27
  have a0 := box_cell w #[.slice A0 n0 c0, .int .i64 t, .int .i64 i, .int .i64 m, .slice A1 n1 c1, .slice A2 n2 c2, .int .i64 v] 27 0 _ rfl
  have a1 := box_cell w #[.slice A0 n0 c0, .int .i64 t, .int .i64 i, .int .i64 m, .slice A1 n1 c1, .slice A2 n2 c2, .int .i64 v] 27 1 _ rfl
  have a2 := box_cell w #[.slice A0 n0 c0, .int .i64 t, .int .i64 i, .int .i64 m, .slice A1 n1 c1, .slice A2 n2 c2, .int .i64 v] 27 2 _ rfl
  have a4 := box_cell w #[.slice A0 n0 c0, .int .i64 t, .int .i64 i, .int .i64 m, .slice A1 n1 c1, .slice A2 n2 c2, .int .i64 v] 27 4 _ rfl
  have a6 := box_cell w #[.slice A0 n0 c0, .int .i64 t, .int .i64 i, .int .i64 m, .slice A1 n1 c1, .slice A2 n2 c2, .int .i64 v] 27 6 _ rfl
  have K0 := Lib.hid R0
  have K1 := Lib.hid R1
  have CS := Lib.hid (fun W => of_q (isize_q t W))
  have CI := Lib.hid (fun W R => index_b A0 n0 c0 l0 t i W R hn0)
  have CN := Lib.hid (fun W R => index_b A0 n0 c0 l0 1 i W R hn0)
  have CV := Lib.hid (fun W R => vertex_b A1 none n1 c1 0 0 l1 [] v W R (RdB.nil _ _ _) hn1)
  have CW := Lib.hid (fun W R => valid_b A1 n1 c1 l1 W R hn1)
  have HE : Hid (0 < isz t → (n0 : Int) / isz t ≤ i → idx l0 t i = 0) := Lib.hid fun h0 h1 => idx_end h0 (by rw [R0.len]; exact h1)
  have hz := HE.out (by rw [hs]; decide) (by rw [hs]; exact hq)
  rw [hs] at CS
  rw [hz] at CI
  obtain ⟨Q, hQ⟩ : ∃ Q, (n0 : Int) / 4 = Q := ⟨_, rfl⟩
  have gq : IntKind.i64.wrap ((n0 : Int) / 4) = Q := by rw [hQ]; exact IntWalk.i64_in _ (by omega)
  rw [hQ] at hq
  have tq : decide (Q ≤ i) = true := decide_eq_true (by omega)
  clear hQ
  clear HE hs hz
  rw [idx_no l0 hi] at CN
  have ti : decide (0 ≤ i) = true := decide_eq_true hi
  have CC := Lib.hid (fun W R => comps_b A1 n1 c1 l1 W R (by have := (vldb_iff.1 hv).1; have := R1.len; omega))
  have HZ := Lib.hid (vtx_out (v := v) hv)
  rw [hv] at CW
  obtain ⟨L, hL⟩ : ∃ L, (if vldb l1 = true then vtx [] v l1 else []) = L := ⟨_, rfl⟩
  rw [hL] at CV
  rw [if_pos hv] at hL
  replace HZ : Hid (L = List.replicate (csum l1) 0) := Lib.hid (by rw [← hL]; exact HZ.out.1)
  obtain ⟨N, hN⟩ : ∃ N, csum l1 = N := ⟨_, rfl⟩
  rw [hN] at CC HZ
  have hN32 : N ≤ 32 := by rw [← hN]; exact (vtx_out (v := v) hv).2
  have HN : Hid (L.length = N) := Lib.hid (by rw [HZ.out, List.length_replicate])
  clear hL hN hv
  clear R0 R1 R2
  go_enter Try.func8, Try.ntmps8
  go_wp2_with (first | (go_at_call 17; refine (CS.out _).mono ?_; rintro _ _ ⟨rfl, B⟩; replace BB := bon BB B; replace a0 := cell_below B a0; replace a1 := cell_below B a1; replace a2 := cell_below B a2; replace a4 := cell_below B a4; replace a6 := cell_below B a6))
  refine wp_region_grow [0, 1, 2, 3, 4, 5, 6, 7, 8, 9, 10, 11, 12, 13, 14, 15, 16, 17, 18, 19, 20, 21] (by kernel_rfl) (by kernel_rfl) ?_
  intro W B
  replace BB := bon BB B
  replace a0 := cell_below B a0
  replace a1 := cell_below B a1
  replace a2 := cell_below B a2
  replace a4 := cell_below B a4
  replace a6 := cell_below B a6
  clear B
  have k_a0 := cell_regrown a0
  have k_a1 := cell_regrown a1
  have k_a2 := cell_regrown a2
  have k_a4 := cell_regrown a4
  have k_a6 := cell_regrown a6
  refine grow_read rfl rfl ?_
  (first | go_big_quiet_step (fail) | quiet_step (fail))
  refine wpQuiet_nil ?_
  refine grow_read rfl rfl ?_
  (first | go_big_quiet_step (fail) | quiet_step (fail))
  refine wpQuiet_nil ?_
  refine grow_read rfl rfl ?_
  (first | go_big_quiet_step (fail) | quiet_step (fail))
  refine wpQuiet_nil ?_
  refine grow_read rfl rfl ?_
  (first | go_big_quiet_step (fail) | quiet_step (fail))
  refine wpQuiet_nil ?_
  refine grow_read rfl rfl ?_
  (first | go_big_quiet_step (fail) | quiet_step (fail))
  refine wpQuiet_nil ?_
  refine grow_read rfl rfl ?_
  (first | go_big_quiet_step (fail) | quiet_step (fail))
  refine wpQuiet_nil ?_
  refine grow_read rfl rfl ?_
  (first | go_big_quiet_step (fail) | quiet_step (fail))
  refine wpQuiet_nil ?_
  refine grow_read rfl rfl ?_
  (first | go_big_quiet_step (fail) | quiet_step (fail))
  refine wpQuiet_nil ?_
  refine grow_read rfl rfl ?_
  (first | go_big_quiet_step (fail) | quiet_step (fail))
  refine wpQuiet_nil ?_
  refine grow_read rfl rfl ?_
  (first | go_big_quiet_step (fail) | quiet_step (fail))
  refine wpQuiet_nil ?_
  refine grow_read rfl rfl ?_
  (first | go_big_quiet_step (fail) | quiet_step (fail))
  refine wpQuiet_nil ?_
  refine grow_read rfl rfl ?_
  (first | go_big_quiet_step (fail) | quiet_step (fail))
  refine wpQuiet_nil ?_
  refine grow_read rfl rfl ?_
  (first | go_big_quiet_step (fail) | quiet_step (fail))
  refine wpQuiet_nil ?_
  refine grow_read rfl rfl ?_
  (first | go_big_quiet_step (fail) | quiet_step (fail))
  refine wpQuiet_nil ?_
  refine grow_read rfl rfl ?_
  (first | go_big_quiet_step (fail) | quiet_step (fail))
  refine wpQuiet_nil ?_
  refine grow_read rfl rfl ?_
  (first | go_big_quiet_step (fail) | quiet_step (fail))
  refine wpQuiet_nil ?_
  refine grow_read rfl rfl ?_
  (first | go_big_quiet_step (fail) | quiet_step (fail))
  refine wpQuiet_nil ?_
  refine grow_read rfl rfl ?_
  (first | go_big_quiet_step (fail) | quiet_step (fail))
  refine wpQuiet_nil ?_
  refine grow_read rfl rfl ?_
  (first | go_big_quiet_step (fail) | quiet_step (fail))
  refine wpQuiet_nil ?_
  clear k_a0 k_a1 k_a2 k_a4 k_a6
  refine grow_call rfl rfl ?_
  go_wp2_with (go_at_call 9; refine (CI.out _ ((K0.out.below BB).more BB.size)).mono ?_; rintro _ _ ⟨rfl, B⟩; replace BB := bon BB B; replace a0 := cell_below B a0; replace a1 := cell_below B a1; replace a2 := cell_below B a2; replace a4 := cell_below B a4; replace a6 := cell_below B a6)
  refine ⟨Grows.of B, ?_⟩
  clear B
  have k_a0 := cell_regrown a0
  have k_a1 := cell_regrown a1
  have k_a2 := cell_regrown a2
  have k_a4 := cell_regrown a4
  have k_a6 := cell_regrown a6
  refine grow_read rfl rfl ?_
  (first | go_big_quiet_step (fail) | quiet_step (fail))
  refine wpQuiet_nil ?_
  refine grow_read rfl rfl ?_
  (first | go_big_quiet_step (fail) | quiet_step (fail))
  refine wpQuiet_nil ?_
  clear k_a0 k_a1 k_a2 k_a4 k_a6
  refine grow_nil ?_
  go_wp2
  refine wp_region_grow [0, 1, 2, 3, 4, 5, 6, 7, 9, 10, 8, 11, 12] (by kernel_rfl) (by kernel_rfl) ?_
  intro W B
  replace BB := bon BB B
  replace a0 := cell_below B a0
  replace a1 := cell_below B a1
  replace a2 := cell_below B a2
  replace a4 := cell_below B a4
  replace a6 := cell_below B a6
  clear B
  have k_a0 := cell_regrown a0
  have k_a1 := cell_regrown a1
  have k_a2 := cell_regrown a2
  have k_a4 := cell_regrown a4
  have k_a6 := cell_regrown a6
  refine grow_read rfl rfl ?_
  (first | go_big_quiet_step (fail) | quiet_step (fail))
  refine wpQuiet_nil ?_
  refine grow_read rfl rfl ?_
  (first | go_big_quiet_step (fail) | quiet_step (fail))
  refine wpQuiet_nil ?_
  refine grow_read rfl rfl ?_
  (first | go_big_quiet_step (fail) | quiet_step (fail))
  refine wpQuiet_nil ?_
  refine grow_read rfl rfl ?_
  (first | go_big_quiet_step (fail) | quiet_step (fail))
  refine wpQuiet_nil ?_
  refine grow_read rfl rfl ?_
  (first | go_big_quiet_step (fail) | quiet_step (fail))
  refine wpQuiet_nil ?_
  refine grow_read rfl rfl ?_
  (first | go_big_quiet_step (fail) | quiet_step (fail))
  refine wpQuiet_nil ?_
  refine grow_read rfl rfl ?_
  (first | go_big_quiet_step (fail) | quiet_step (fail))
  refine wpQuiet_nil ?_
  refine grow_read rfl rfl ?_
  (first | go_big_quiet_step (fail) | quiet_step (fail))
  refine wpQuiet_nil ?_
  refine grow_read rfl rfl ?_
  (first | go_big_quiet_step (fail) | quiet_step (fail))
  refine wpQuiet_nil ?_
  refine grow_read rfl rfl ?_
  (first | go_big_quiet_step (fail) | quiet_step (fail))
  refine wpQuiet_nil ?_
  clear k_a0 k_a1 k_a2 k_a4 k_a6
  refine grow_call rfl rfl ?_
  go_wp2_with (go_at_call 9; refine (CN.out _ ((K0.out.below BB).more BB.size)).mono ?_; rintro _ _ ⟨rfl, B⟩; replace BB := bon BB B; replace a0 := cell_below B a0; replace a1 := cell_below B a1; replace a2 := cell_below B a2; replace a4 := cell_below B a4; replace a6 := cell_below B a6)
  refine ⟨Grows.of B, ?_⟩
  clear B
  have k_a0 := cell_regrown a0
  have k_a1 := cell_regrown a1
  have k_a2 := cell_regrown a2
  have k_a4 := cell_regrown a4
  have k_a6 := cell_regrown a6
  refine grow_read rfl rfl ?_
  (first | go_big_quiet_step (fail) | quiet_step (fail))
  refine wpQuiet_nil ?_
  refine grow_read rfl rfl ?_
  (first | go_big_quiet_step (fail) | quiet_step (fail))
  refine wpQuiet_nil ?_
  clear k_a0 k_a1 k_a2 k_a4 k_a6
  refine grow_nil ?_
  go_wp2_with (first
    | (go_at_call 12; (with_reducible refine (CV.out _ ((K1.out.below BB).more BB.size)).mono ?_); rintro _ W5 ⟨A5, n5, d5, rfl, _, R5, B⟩; obtain rfl : n5 = N := (by have q1 := R5.len; have q2 := HN.out; omega); have K5 := Lib.hid R5; replace BB := bon BB B; replace a4 := cell_below B a4; clear B R5)
    | (go_at_call 21; (with_reducible refine (CW.out _ ((K1.out.below BB).more BB.size)).mono ?_); rintro _ W6 ⟨rfl, B⟩; replace BB := bon BB B; replace a4 := cell_below B a4; replace K5 := Lib.hid (K5.out.on B); clear B)
    | (go_at_call 14; (with_reducible refine (hexample_b _).mono ?_); rintro _ W9 ⟨rfl, B⟩; replace BB := bon BB B; clear B))
  rename World => wv
  have B0 := Below.refl wv.heap.size wv
  go_loopw [5] (fun j wr => ∃ k : Nat, k ≤ n5 ∧ j = .int .i64 (k : Int) ∧ Below wv.heap.size wv wr) (fun j _ => n5 - (intOf j).toNat)
  case atStart => exact ⟨0, by omega, rfl, B0⟩
  case round =>
    clear B0
    obtain ⟨k, hk, rfl, B0⟩ := hrel
    rename World => wr
    by_cases hlt : k < n5
    · obtain ⟨b5, o5, x, rfl, cx, x0, x1, hx⟩ := (K5.out.below B0).int hlt
      obtain rfl : x = 0 := (by have h9 := hx.out; rw [HZ.out] at h9; exact List.eq_of_mem_replicate (List.mem_of_getElem? h9))
      clear hx
      go_wp2
      go_roundw
      case rel => exact ⟨k + 1, by omega, by go_num, B0⟩
      case measure => simp [intOf]; omega
    · obtain rfl : k = n5 := by omega
      replace BB := bon BB B0
      replace a4 := cell_below B0 a4
      clear B0
      go_wp2_with (first
        | (go_at_call 19; (with_reducible refine (CC.out _ ((K1.out.below BB).more BB.size)).mono ?_); rintro _ W7 ⟨rfl, B⟩; replace BB := bon BB B; clear B)
        | (go_at_call 14; (with_reducible refine (hexample_b _).mono ?_); rintro _ W9 ⟨rfl, B⟩; replace BB := bon BB B; clear B))
      go_ret
      exact ⟨rfl, BB⟩

theorem isz_cases (t : Int) : isz t ≤ 0 ∨ isz t = 1 ∨ isz t = 2 ∨ isz t = 4 := by
  unfold isz
  repeat' split
  all_goals decide

theorem outside_walk (A0 A1 A2 : Option Addr) (n0 c0 n1 c1 n2 c2 : Nat) (l0 : List Int) (l1 : List At) (l2 : List Bf) (t i m v : Int) (w : World) (R0 : Rd w w.heap.size .u8 A0 n0 l0) (R1 : RdA w w.heap.size A1 n1 l1) (R2 : RdB w w.heap.size A2 n2 l2) (hn0 : n0 ≤ 9223372036854775807) (hn1 : n1 ≤ 9223372036854775807) :
    Calls Try.prog 8 #[.agg #[.slice A0 n0 c0, .int .i64 t, .int .i64 i, .int .i64 m, .slice A1 n1 c1, .slice A2 n2 c2, .int .i64 v]] w fun e w' => e = .returned (.bool true) ∧ Below w.heap.size w w' := by
  rcases Int.lt_or_le i 0 with hi | hi <;> rcases hv : vldb l1 with _ | _
  · rcases isz_cases t with hs | hs | hs | hs
    · exact out_a_neg_n A0 A1 A2 n0 c0 n1 c1 n2 c2 l0 l1 l2 t i m v w R0 R1 R2 hn0 hn1 hs hi hv
    · rcases Int.lt_or_le i ((n0 : Int) / 1) with hq | hq
      · exact out_b1_neg_n A0 A1 A2 n0 c0 n1 c1 n2 c2 l0 l1 l2 t i m v w R0 R1 R2 hn0 hn1 hs hq hi hv
      · exact absurd hq (by omega)
    · rcases Int.lt_or_le i ((n0 : Int) / 2) with hq | hq
      · exact out_b2_neg_n A0 A1 A2 n0 c0 n1 c1 n2 c2 l0 l1 l2 t i m v w R0 R1 R2 hn0 hn1 hs hq hi hv
      · exact absurd hq (by omega)
    · rcases Int.lt_or_le i ((n0 : Int) / 4) with hq | hq
      · exact out_b4_neg_n A0 A1 A2 n0 c0 n1 c1 n2 c2 l0 l1 l2 t i m v w R0 R1 R2 hn0 hn1 hs hq hi hv
      · exact absurd hq (by omega)
  · rcases isz_cases t with hs | hs | hs | hs
    · exact out_a_neg_y A0 A1 A2 n0 c0 n1 c1 n2 c2 l0 l1 l2 t i m v w R0 R1 R2 hn0 hn1 hs hi hv
    · rcases Int.lt_or_le i ((n0 : Int) / 1) with hq | hq
      · exact out_b1_neg_y A0 A1 A2 n0 c0 n1 c1 n2 c2 l0 l1 l2 t i m v w R0 R1 R2 hn0 hn1 hs hq hi hv
      · exact absurd hq (by omega)
    · rcases Int.lt_or_le i ((n0 : Int) / 2) with hq | hq
      · exact out_b2_neg_y A0 A1 A2 n0 c0 n1 c1 n2 c2 l0 l1 l2 t i m v w R0 R1 R2 hn0 hn1 hs hq hi hv
      · exact absurd hq (by omega)
    · rcases Int.lt_or_le i ((n0 : Int) / 4) with hq | hq
      · exact out_b4_neg_y A0 A1 A2 n0 c0 n1 c1 n2 c2 l0 l1 l2 t i m v w R0 R1 R2 hn0 hn1 hs hq hi hv
      · exact absurd hq (by omega)
  · rcases isz_cases t with hs | hs | hs | hs
    · exact out_a_pos_n A0 A1 A2 n0 c0 n1 c1 n2 c2 l0 l1 l2 t i m v w R0 R1 R2 hn0 hn1 hs hi hv
    · rcases Int.lt_or_le i ((n0 : Int) / 1) with hq | hq
      · exact out_b1_pos_n A0 A1 A2 n0 c0 n1 c1 n2 c2 l0 l1 l2 t i m v w R0 R1 R2 hn0 hn1 hs hq hi hv
      · exact out_c1_pos_n A0 A1 A2 n0 c0 n1 c1 n2 c2 l0 l1 l2 t i m v w R0 R1 R2 hn0 hn1 hs hq hi hv
    · rcases Int.lt_or_le i ((n0 : Int) / 2) with hq | hq
      · exact out_b2_pos_n A0 A1 A2 n0 c0 n1 c1 n2 c2 l0 l1 l2 t i m v w R0 R1 R2 hn0 hn1 hs hq hi hv
      · exact out_c2_pos_n A0 A1 A2 n0 c0 n1 c1 n2 c2 l0 l1 l2 t i m v w R0 R1 R2 hn0 hn1 hs hq hi hv
    · rcases Int.lt_or_le i ((n0 : Int) / 4) with hq | hq
      · exact out_b4_pos_n A0 A1 A2 n0 c0 n1 c1 n2 c2 l0 l1 l2 t i m v w R0 R1 R2 hn0 hn1 hs hq hi hv
      · exact out_c4_pos_n A0 A1 A2 n0 c0 n1 c1 n2 c2 l0 l1 l2 t i m v w R0 R1 R2 hn0 hn1 hs hq hi hv
  · rcases isz_cases t with hs | hs | hs | hs
    · exact out_a_pos_y A0 A1 A2 n0 c0 n1 c1 n2 c2 l0 l1 l2 t i m v w R0 R1 R2 hn0 hn1 hs hi hv
    · rcases Int.lt_or_le i ((n0 : Int) / 1) with hq | hq
      · exact out_b1_pos_y A0 A1 A2 n0 c0 n1 c1 n2 c2 l0 l1 l2 t i m v w R0 R1 R2 hn0 hn1 hs hq hi hv
      · exact out_c1_pos_y A0 A1 A2 n0 c0 n1 c1 n2 c2 l0 l1 l2 t i m v w R0 R1 R2 hn0 hn1 hs hq hi hv
    · rcases Int.lt_or_le i ((n0 : Int) / 2) with hq | hq
      · exact out_b2_pos_y A0 A1 A2 n0 c0 n1 c1 n2 c2 l0 l1 l2 t i m v w R0 R1 R2 hn0 hn1 hs hq hi hv
      · exact out_c2_pos_y A0 A1 A2 n0 c0 n1 c1 n2 c2 l0 l1 l2 t i m v w R0 R1 R2 hn0 hn1 hs hq hi hv
    · rcases Int.lt_or_le i ((n0 : Int) / 4) with hq | hq
      · exact out_b4_pos_y A0 A1 A2 n0 c0 n1 c1 n2 c2 l0 l1 l2 t i m v w R0 R1 R2 hn0 hn1 hs hq hi hv
      · exact out_c4_pos_y A0 A1 A2 n0 c0 n1 c1 n2 c2 l0 l1 l2 t i m v w R0 R1 R2 hn0 hn1 hs hq hi hv

end Go.Proofs.Ytfakmeimideoaaa
