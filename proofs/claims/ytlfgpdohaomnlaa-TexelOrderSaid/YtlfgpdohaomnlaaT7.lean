/- The chapter's examples; the walks of TexelUNorm, TexelEncode, TexelDecode. -/
import Derived.Test.YtlfgpdohaomnlaaT6
namespace Go.Proofs.Ytlfgpdohaomnlaa
open Go.RowKit Go.Sort

theorem tof_same {P : Program} {f : FuncId} {args : Array Value} {w : World} {v : Value} (h : Calls P f args w fun e w' => e = .returned v ∧ w = w') : Calls P f args w fun e w' => e = .returned v ∧ Below w.heap.size w w' :=
  h.mono fun _ _ ⟨h1, h2⟩ => ⟨h1, h2 ▸ Below.refl _ _⟩

/-- A written slice of bytes. -/
theorem rd_lit (W : World) (l : List Int) (n : Nat) (t : TypeId) (hl : l.length = n) (hr : ∀ x ∈ l, (0 : Int) ≤ x ∧ x ≤ 255) : Rd (W.alloc (.cells (l.map (Value.int .u8)).toArray t)) (W.heap.size + 1) .u8 (some ⟨W.heap.size, 0, none⟩) n l :=
  ⟨hl, fun x hx => by rw [u8_min, u8_max]; exact hr x hx, fun _ => ⟨W.heap.size, 0, rfl, by omega, fun j x hx => by rw [Nat.zero_add]; exact box_cell W _ t j _ (by simp [hx])⟩⟩

set_option maxRecDepth 100000 in
theorem texample_b (w : World) : Calls Try.prog 13 #[] w fun e w' => e = .returned (.bool true) ∧ Below w.heap.size w w' := by
  have BB : Below w.heap.size w w := Below.refl _ _
  have e1 : enc 2 65536 0 32768 65536 = [255, 0, 128, 255] := by decide +kernel
  have e2 : enc 3 65536 65536 65536 65536 = [255, 255] := by decide +kernel
  have c1 := fun W => tencode_b 2 65536 0 32768 65536 W
  have c2 := fun W => tencode_b 3 65536 65536 65536 65536 W
  rw [e1] at c1
  rw [e2] at c2
  have C1 := Lib.hid c1
  have C2 := Lib.hid c2
  clear c1 c2 e1 e2
  go_enter Try.func13, Try.ntmps13
  go_wp2_with (first
    | (go_at_call 11; (with_reducible refine (C1.out _).mono ?_); rintro _ W1 ⟨A1, n1, d1, rfl, _, R1, B⟩; replace BB := bon BB B; clear B)
    | (go_at_call 11; (with_reducible refine (C2.out _).mono ?_); rintro _ W2 ⟨A2, n2, d2, rfl, _, R2, B⟩; replace R1 := R1.on B; replace BB := bon BB B; clear B)
    | (go_at_call 10; refine (lsame_b _ _ _ _ _ _ _ _ _ _ (R1.below (box_below W2 _ _)) (rd_lit W2 [255, 0, 128, 255] 4 _ rfl (by decide)) (by simp) (by simp) (by have := R1.len; simp at this; omega)).mono ?_; rintro _ W3 ⟨rfl, B⟩; have B3 := bon (box_below W2 _ _) B; replace R2 := R2.on B3; replace BB := bon BB B3; clear B B3 R1)
    | (go_at_call 10; refine (lsame_b _ _ _ _ _ _ _ _ _ _ (R2.below (box_below W3 _ _)) (rd_lit W3 [255, 255] 2 _ rfl (by decide)) (by simp) (by simp) (by have := R2.len; simp at this; omega)).mono ?_; rintro _ W4 ⟨rfl, B⟩; have B4 := bon (box_below W3 _ _) B; replace BB := bon BB B4; clear B B4 R2))
  go_ret
  exact ⟨rfl, BB⟩

set_option maxRecDepth 100000 in
theorem unorm_walk (x b : Int) (w : World) : Calls Try.prog 4 #[.int .i64 x, .int .i64 b] w fun e w' => e = .returned (.bool true) ∧ Below w.heap.size w w' := by
  have BB : Below w.heap.size w w := Below.refl _ _
  have c1 := fun W => tunorm_b x b W
  have c2 := fun W => runorm_b x b W
  have c3 := fun W => tfromu_b x b W
  have c4 := fun W => rfromu_b x b W
  obtain ⟨y, hy⟩ : ∃ y, unv x b = y := ⟨_, rfl⟩
  obtain ⟨z, hz⟩ : ∃ z, fromv x b = z := ⟨_, rfl⟩
  rw [hy] at c1 c2
  rw [hz] at c3 c4
  have C1 := Lib.hid c1
  have C2 := Lib.hid c2
  have C3 := Lib.hid c3
  have C4 := Lib.hid c4
  clear c1 c2 c3 c4 hy hz
  go_enter Try.func4, Try.ntmps4
  go_wp2_with (first
    | (go_at_call 14; (with_reducible refine (C1.out _).mono ?_); rintro _ W1 ⟨rfl, B⟩; replace BB := bon BB B; clear B)
    | (go_at_call 15; (with_reducible refine (C2.out _).mono ?_); rintro _ W1 ⟨rfl, B⟩; replace BB := bon BB B; clear B)
    | (go_at_call 16; (with_reducible refine (C3.out _).mono ?_); rintro _ W1 ⟨rfl, B⟩; replace BB := bon BB B; clear B)
    | (go_at_call 17; (with_reducible refine (C4.out _).mono ?_); rintro _ W1 ⟨rfl, B⟩; replace BB := bon BB B; clear B)
    | (go_at_call 13; (with_reducible refine (texample_b _).mono ?_); rintro _ W1 ⟨rfl, B⟩; replace BB := bon BB B; clear B))
  go_ret
  exact ⟨rfl, BB⟩

set_option maxRecDepth 100000 in
theorem encode_walk (f x0 x1 x2 x3 : Int) (w : World) : Calls Try.prog 5 #[.int .i64 f, .agg #[.int .i64 x0, .int .i64 x1, .int .i64 x2, .int .i64 x3]] w fun e w' => e = .returned (.bool true) ∧ Below w.heap.size w w' := by
  obtain ⟨a0, a1, a2, a3, BB⟩ := box4 w (.int .i64 x0) (.int .i64 x1) (.int .i64 x2) (.int .i64 x3) 25
  have c1 := fun W => tsize_b f W
  have c2 := fun W => tof_same (rsize_q f W)
  have c3 := fun W => tvalid_b f W
  have c4 := fun W => tof_same (rvalid_q f W)
  have c5 := fun W => tcomps_b f W
  have c6 := fun W => tof_same (rcomps_q f W)
  have c7 := fun W => tencode_b f x0 x1 x2 x3 W
  have c8 := fun W => rencode_b f x0 x1 x2 x3 W
  have hlen := enc_len f x0 x1 x2 x3
  have h8 := nsz_le f
  obtain ⟨s, hs⟩ : ∃ s, nsz f = s := ⟨_, rfl⟩
  obtain ⟨v, hv⟩ : ∃ s, isf f = s := ⟨_, rfl⟩
  obtain ⟨n, hn⟩ : ∃ s, ncm f = s := ⟨_, rfl⟩
  obtain ⟨l, hl⟩ : ∃ s, enc f x0 x1 x2 x3 = s := ⟨_, rfl⟩
  rw [hs] at c1 c2 hlen h8
  rw [hv] at c3 c4
  rw [hn] at c5 c6
  rw [hl] at c7 c8 hlen
  have C1 := Lib.hid c1
  have C2 := Lib.hid c2
  have C3 := Lib.hid c3
  have C4 := Lib.hid c4
  have C5 := Lib.hid c5
  have C6 := Lib.hid c6
  have C7 := Lib.hid c7
  have C8 := Lib.hid c8
  have HLEN := Lib.hid hlen
  clear c1 c2 c3 c4 c5 c6 c7 c8 hs hv hn hl hlen
  go_enter Try.func5, Try.ntmps5
  go_wp2_with (first | (go_at_call 9; refine (C1.out _).mono ?_; rintro _ _ ⟨rfl, B⟩; replace BB := bon BB B; replace a0 := cell_below B a0; replace a1 := cell_below B a1; replace a2 := cell_below B a2; replace a3 := cell_below B a3) | (go_at_call 18; refine (C2.out _).mono ?_; rintro _ _ ⟨rfl, B⟩; replace BB := bon BB B; replace a0 := cell_below B a0; replace a1 := cell_below B a1; replace a2 := cell_below B a2; replace a3 := cell_below B a3) | (go_at_call 19; refine (C3.out _).mono ?_; rintro _ _ ⟨rfl, B⟩; replace BB := bon BB B; replace a0 := cell_below B a0; replace a1 := cell_below B a1; replace a2 := cell_below B a2; replace a3 := cell_below B a3) | (go_at_call 20; refine (C4.out _).mono ?_; rintro _ _ ⟨rfl, B⟩; replace BB := bon BB B; replace a0 := cell_below B a0; replace a1 := cell_below B a1; replace a2 := cell_below B a2; replace a3 := cell_below B a3) | (go_at_call 21; refine (C5.out _).mono ?_; rintro _ _ ⟨rfl, B⟩; replace BB := bon BB B; replace a0 := cell_below B a0; replace a1 := cell_below B a1; replace a2 := cell_below B a2; replace a3 := cell_below B a3) | (go_at_call 22; refine (C6.out _).mono ?_; rintro _ _ ⟨rfl, B⟩; replace BB := bon BB B; replace a0 := cell_below B a0; replace a1 := cell_below B a1; replace a2 := cell_below B a2; replace a3 := cell_below B a3))
  refine wp_region_grow [0, 1, 2, 3, 5, 6, 4, 7, 8, 9, 10, 11, 12, 13] (by kernel_rfl) (by kernel_rfl) ?_
  intro W B
  replace BB := bon BB B
  replace a0 := cell_below B a0
  replace a1 := cell_below B a1
  replace a2 := cell_below B a2
  replace a3 := cell_below B a3
  clear B
  have k_a0 := cell_regrown a0
  have k_a1 := cell_regrown a1
  have k_a2 := cell_regrown a2
  have k_a3 := cell_regrown a3
  refine grow_read rfl rfl ?_
  (first | go_big_quiet_step (fail) | quiet_step (fail))
  refine wpQuiet_nil ?_
  refine grow_read rfl rfl ?_
  (first | go_big_quiet_step (fail) | quiet_step (fail))
  refine wpQuiet_nil ?_
  refine grow_read rfl rfl ?_
  (first | go_big_quiet_step (fail) | quiet_step (fail))
  refine wpQuiet_nil ?_
  refine grow_read rfl rfl ?_
  (first | go_big_quiet_step (fail) | quiet_step (fail))
  refine wpQuiet_nil ?_
  refine grow_read rfl rfl ?_
  (first | go_big_quiet_step (fail) | quiet_step (fail))
  refine wpQuiet_nil ?_
  refine grow_read rfl rfl ?_
  (first | go_big_quiet_step (fail) | quiet_step (fail))
  refine wpQuiet_nil ?_
  clear k_a0 k_a1 k_a2 k_a3
  refine grow_call rfl rfl ?_
  go_wp2_with (go_at_call 11; refine (C7.out _).mono ?_; rintro _ _ ⟨A1, n1, d1, rfl, _, R1, B⟩; replace BB := bon BB B; replace a0 := cell_below B a0; replace a1 := cell_below B a1; replace a2 := cell_below B a2; replace a3 := cell_below B a3)
  refine ⟨Grows.of B, ?_⟩
  clear B
  have k_a0 := cell_regrown a0
  have k_a1 := cell_regrown a1
  have k_a2 := cell_regrown a2
  have k_a3 := cell_regrown a3
  clear k_a0 k_a1 k_a2 k_a3
  refine grow_call rfl rfl ?_
  go_wp2_with (go_at_call 23; refine (C8.out _).mono ?_; rintro _ _ ⟨A2, n2, d2, rfl, _, R2, B⟩; replace R1 := R1.on B; replace BB := bon BB B; replace a0 := cell_below B a0; replace a1 := cell_below B a1; replace a2 := cell_below B a2; replace a3 := cell_below B a3)
  refine ⟨Grows.of B, ?_⟩
  clear B
  have k_a0 := cell_regrown a0
  have k_a1 := cell_regrown a1
  have k_a2 := cell_regrown a2
  have k_a3 := cell_regrown a3
  clear k_a0 k_a1 k_a2 k_a3
  refine grow_call rfl rfl ?_
  go_wp2_with (go_at_call 10; refine (lsame_b _ _ _ _ _ _ _ _ _ _ R1 R2 (Nat.le_refl _) (Nat.le_refl _) (by have h1 := R1.len; have h2 := HLEN.out; omega)).mono ?_; rintro _ _ ⟨rfl, B⟩; replace BB := bon BB B; replace a0 := cell_below B a0; replace a1 := cell_below B a1; replace a2 := cell_below B a2; replace a3 := cell_below B a3)
  refine ⟨Grows.of B, ?_⟩
  clear B
  have k_a0 := cell_regrown a0
  have k_a1 := cell_regrown a1
  have k_a2 := cell_regrown a2
  have k_a3 := cell_regrown a3
  refine grow_read rfl rfl ?_
  (first | go_big_quiet_step (fail) | quiet_step (fail))
  refine wpQuiet_nil ?_
  refine grow_read rfl rfl ?_
  (first | go_big_quiet_step (fail) | quiet_step (fail))
  refine wpQuiet_nil ?_
  clear k_a0 k_a1 k_a2 k_a3
  refine grow_call rfl rfl ?_
  go_wp2_with (go_at_call 13; refine (texample_b _).mono ?_; rintro _ _ ⟨rfl, B⟩; replace BB := bon BB B; replace a0 := cell_below B a0; replace a1 := cell_below B a1; replace a2 := cell_below B a2; replace a3 := cell_below B a3)
  refine ⟨Grows.of B, ?_⟩
  clear B
  have k_a0 := cell_regrown a0
  have k_a1 := cell_regrown a1
  have k_a2 := cell_regrown a2
  have k_a3 := cell_regrown a3
  refine grow_read rfl rfl ?_
  (first | go_big_quiet_step (fail) | quiet_step (fail))
  refine wpQuiet_nil ?_
  refine grow_read rfl rfl ?_
  (first | go_big_quiet_step (fail) | quiet_step (fail))
  refine wpQuiet_nil ?_
  clear k_a0 k_a1 k_a2 k_a3
  refine grow_nil ?_
  go_wp2
  go_ret
  exact ⟨rfl, BB⟩

set_option maxRecDepth 100000 in
theorem decode_walk (f : Int) (A : Option Addr) (n c : Nat) (l : List Int) (x0 x1 x2 x3 : Int) (w : World) (R : Rd w w.heap.size .u8 A n l) (hc : n ≤ c) (hn : n ≤ 9223372036854775807) :
    Calls Try.prog 6 #[.int .i64 f, .slice A n c, .agg #[.int .i64 x0, .int .i64 x1, .int .i64 x2, .int .i64 x3]] w fun e w' => e = .returned (.bool true) ∧ Below w.heap.size w w' := by
  obtain ⟨a0, a1, a2, a3, BB⟩ := box4 w (.int .i64 x0) (.int .i64 x1) (.int .i64 x2) (.int .i64 x3) 25
  have R0 := Lib.hid (R.on BB)
  have c1 := fun W R => tdecode_b f A n c l W R hc hn
  have c2 := fun W R => rdecode_b f A n c l W R hc
  have c3 := fun W => tquant_b f x0 x1 x2 x3 W
  have c4 := fun W => rquant_b f x0 x1 x2 x3 W
  obtain ⟨y, hy⟩ : ∃ y, dec f l = y := ⟨_, rfl⟩
  obtain ⟨z, hz⟩ : ∃ z, qnt f x0 x1 x2 x3 = z := ⟨_, rfl⟩
  rw [hy] at c1 c2
  rw [hz] at c3 c4
  have C1 := Lib.hid c1
  have C2 := Lib.hid c2
  have C3 := Lib.hid c3
  have C4 := Lib.hid c4
  clear c1 c2 c3 c4 hy hz R
  by_cases hb : 100 < n
  · go_enter Try.func6, Try.ntmps6
    go_wp2_with (first | (go_at_call 13; refine (texample_b _).mono ?_; rintro _ _ ⟨rfl, B⟩; replace BB := bon BB B; replace a0 := cell_below B a0; replace a1 := cell_below B a1; replace a2 := cell_below B a2; replace a3 := cell_below B a3))
    go_ret
    exact ⟨rfl, BB⟩
  · have hb2 : n ≤ 100 := by omega
    go_enter Try.func6, Try.ntmps6
    go_wp2
    have k_a0 := cell_regrown a0
    have k_a1 := cell_regrown a1
    have k_a2 := cell_regrown a2
    have k_a3 := cell_regrown a3
    refine wp_region_quiet_below (by kernel_rfl) (by kernel_rfl) ?_
    repeat (first | go_big_quiet_step ((first | (go_at_call 12; exact Calls.regrown_of (C1.out _ ((R0.out.below (below_regrown _ _ _)).more (below_regrown _ _ _).size))) | (go_at_call 24; exact Calls.regrown_of (C2.out _ ((R0.out.below (below_regrown _ _ _)).more (below_regrown _ _ _).size))) | (go_at_call 25; exact Calls.regrown_of (C3.out _)) | (go_at_call 26; exact Calls.regrown_of (C4.out _)) | (go_at_call 13; exact Calls.regrown_of (texample_b _)))) | quiet_step ((first | (go_at_call 12; exact Calls.regrown_of (C1.out _ ((R0.out.below (below_regrown _ _ _)).more (below_regrown _ _ _).size))) | (go_at_call 24; exact Calls.regrown_of (C2.out _ ((R0.out.below (below_regrown _ _ _)).more (below_regrown _ _ _).size))) | (go_at_call 25; exact Calls.regrown_of (C3.out _)) | (go_at_call 26; exact Calls.regrown_of (C4.out _)) | (go_at_call 13; exact Calls.regrown_of (texample_b _)))))
    refine wpQuiet_nil ?_
    intro W hw'
    have B := below_regrown' hw'
    clear hw' k_a0 k_a1 k_a2 k_a3
    replace BB := bon BB B
    replace a0 := cell_below B a0
    replace a1 := cell_below B a1
    replace a2 := cell_below B a2
    replace a3 := cell_below B a3
    go_wp2
    go_ret
    exact ⟨rfl, BB⟩

end Go.Proofs.Ytlfgpdohaomnlaa
