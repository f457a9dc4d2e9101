/- The example; the walks of BinningGrid, BinningPartition. -/
import Derived.Test.YtaeocpjddhghdaaBN1
namespace Go.Proofs.Ytaeocpjddhghdaa
set_option linter.unusedSimpArgs false
open Go.RowKit Go.Sort Go.ChangeShapes Go.WideShapes
set_option linter.unusedVariables false

theorem ex_rect : trv 20 9 2 = .tuple #[.int .i64 16, .int .i64 0, .int .i64 4, .int .i64 8] := by
  have e1 : trx 20 9 2 = 16 := by decide
  have e2 : tryv 20 9 2 = 0 := by decide
  have e3 : trw 20 9 2 = 4 := by decide
  have e4 : trh 20 9 2 = 8 := by decide
  unfold trv
  rw [e1, e2, e3, e4]

set_option maxRecDepth 100000 in
theorem example36_b (w : World) : Calls Try.prog 10 #[] w fun e w' => e = .returned (.bool true) ∧ Below w.heap.size w w' := by
  have BB := Below.refl w.heap.size w
  have cg := fun W => grid_b 20 9 W
  rw [show cols 20 9 = 3 by decide, show rows 20 9 = 2 by decide] at cg
  have cr := fun W => rect_b 20 9 2 W
  rw [ex_rect] at cr
  have CG := Lib.hid cg
  have CR := Lib.hid cr
  clear cg cr
  go_enter Try.func10, Try.ntmps10
  go_wp2_with (first | (go_at_call 16; refine (CG.out _).mono ?_; rintro _ _ ⟨rfl, B⟩; replace BB := bon BB B) | (go_at_call 18; refine (CR.out _).mono ?_; rintro _ _ ⟨rfl, B⟩; replace BB := bon BB B))
  go_ret
  exact ⟨rfl, BB⟩

set_option maxRecDepth 100000 in
set_option maxHeartbeats 2000000 in
theorem bgrid_walk (a b t x y : Int) (w : World) : Calls Try.prog 5 #[.agg #[.int .i64 a, .int .i64 b], .int .i64 t, .agg #[.int .i64 x, .int .i64 y]] w fun e w' => e = .returned (.bool true) ∧ Below w.heap.size w w' := by
  have BB := box_below w #[.int .i64 a, .int .i64 b] 40
  have X0 := EBox.made w #[.int .i64 a, .int .i64 b] 40
  have hsz1 : (w.alloc (.cells #[.int .i64 a, .int .i64 b] 40)).heap.size = w.heap.size + 1 := by simp
  have X1 := EBox.made (w.alloc (.cells #[.int .i64 a, .int .i64 b] 40)) #[.int .i64 x, .int .i64 y] 40
  rw [hsz1] at X1
  replace X0 := X0.on (Nat.succ_pos _) (box_below (w.alloc (.cells #[.int .i64 a, .int .i64 b] 40)) #[.int .i64 x, .int .i64 y] 40)
  replace BB := bon BB (box_below (w.alloc (.cells #[.int .i64 a, .int .i64 b] 40)) #[.int .i64 x, .int .i64 y] 40)
  clear hsz1
  have s0 := X0.cell (i := 0) rfl
  have s1 := X0.cell (i := 1) rfl
  have p0 := X1.cell (i := 0) rfl
  have p1 := X1.cell (i := 1) rfl
  clear X0 X1
  have CR := fun W => rect_b a b t W
  have CS := fun W => rrect_b a b t W
  unfold trv at CR CS
  obtain ⟨X, hX⟩ : ∃ v, trx a b t = v := ⟨_, rfl⟩
  obtain ⟨Y, hY⟩ : ∃ v, tryv a b t = v := ⟨_, rfl⟩
  obtain ⟨Wd, hW⟩ : ∃ v, trw a b t = v := ⟨_, rfl⟩
  obtain ⟨Ht, hH⟩ : ∃ v, trh a b t = v := ⟨_, rfl⟩
  rw [hX, hY, hW, hH] at CR CS
  have DR := Lib.hid CR
  have DS := Lib.hid CS
  clear CR CS hX hY hW hH
  go_enter Try.func5, Try.ntmps5
  go_wp2_with (first | (go_at_call 16; refine (grid_b a b _).mono ?_; rintro _ _ ⟨rfl, B⟩; replace BB := bon BB B; replace s0 := cell_below B s0; replace s1 := cell_below B s1; replace p0 := cell_below B p0; replace p1 := cell_below B p1) | (go_at_call 17; refine (rgrid_b a b _).mono ?_; rintro _ _ ⟨rfl, B⟩; replace BB := bon BB B; replace s0 := cell_below B s0; replace s1 := cell_below B s1; replace p0 := cell_below B p0; replace p1 := cell_below B p1) | (go_at_call 18; refine (DR.out _).mono ?_; rintro _ _ ⟨rfl, B⟩; replace BB := bon BB B; replace s0 := cell_below B s0; replace s1 := cell_below B s1; replace p0 := cell_below B p0; replace p1 := cell_below B p1) | (go_at_call 19; refine (DS.out _).mono ?_; rintro _ _ ⟨rfl, B⟩; replace BB := bon BB B; replace s0 := cell_below B s0; replace s1 := cell_below B s1; replace p0 := cell_below B p0; replace p1 := cell_below B p1))
  have k_s0 := cell_regrown s0
  have k_s1 := cell_regrown s1
  have k_p0 := cell_regrown p0
  have k_p1 := cell_regrown p1
  refine wp_region_quiet_below (by kernel_rfl) (by kernel_rfl) ?_
  repeat (first | go_big_quiet_step ((first | (go_at_call 20; exact Calls.regrown_of (tiles_b a b _)) | (go_at_call 21; exact Calls.regrown_of (rtiles_b a b _)) | (go_at_call 9; exact Calls.regrown_of (tileOf_b a b x y _)) | (go_at_call 22; exact Calls.regrown_of (rtileOf_b a b x y _)))) | quiet_step ((first | (go_at_call 20; exact Calls.regrown_of (tiles_b a b _)) | (go_at_call 21; exact Calls.regrown_of (rtiles_b a b _)) | (go_at_call 9; exact Calls.regrown_of (tileOf_b a b x y _)) | (go_at_call 22; exact Calls.regrown_of (rtileOf_b a b x y _)))))
  refine wpQuiet_nil ?_
  intro W hw'
  have B := below_regrown' hw'
  clear hw' k_s0 k_s1 k_p0 k_p1
  replace BB := bon BB B
  replace s0 := cell_below B s0
  replace s1 := cell_below B s1
  replace p0 := cell_below B p0
  replace p1 := cell_below B p1
  go_wp2_with (first | (go_at_call 10; refine (example36_b _).mono ?_; rintro _ _ ⟨rfl, B⟩; replace BB := bon BB B; replace s0 := cell_below B s0; replace s1 := cell_below B s1; replace p0 := cell_below B p0; replace p1 := cell_below B p1))
  go_ret
  exact ⟨rfl, BB⟩

set_option maxRecDepth 100000 in
set_option maxHeartbeats 2000000 in
theorem part_no (a b x y P : Int) (hP : cols a b * rows a b = P) (h : tof a b x y = -1) (hx : P ≤ 0 ∨ (0 < P ∧ x < 0) ∨ (0 < P ∧ 0 ≤ x ∧ a ≤ x) ∨ (0 < P ∧ 0 ≤ x ∧ x < a ∧ y < 0) ∨ (0 < P ∧ 0 ≤ x ∧ x < a ∧ 0 ≤ y ∧ b ≤ y)) (w : World) : Calls Try.prog 7 #[.agg #[.int .i64 a, .int .i64 b], .agg #[.int .i64 x, .int .i64 y]] w fun e w' => e = .returned (.bool true) ∧ Below w.heap.size w w' := by
  have BB := box_below w #[.int .i64 a, .int .i64 b] 40
  have X0 := EBox.made w #[.int .i64 a, .int .i64 b] 40
  have hsz1 : (w.alloc (.cells #[.int .i64 a, .int .i64 b] 40)).heap.size = w.heap.size + 1 := by simp
  have X1 := EBox.made (w.alloc (.cells #[.int .i64 a, .int .i64 b] 40)) #[.int .i64 x, .int .i64 y] 40
  rw [hsz1] at X1
  replace X0 := X0.on (Nat.succ_pos _) (box_below (w.alloc (.cells #[.int .i64 a, .int .i64 b] 40)) #[.int .i64 x, .int .i64 y] 40)
  replace BB := bon BB (box_below (w.alloc (.cells #[.int .i64 a, .int .i64 b] 40)) #[.int .i64 x, .int .i64 y] 40)
  clear hsz1
  have s0 := X0.cell (i := 0) rfl
  have s1 := X0.cell (i := 1) rfl
  have p0 := X1.cell (i := 0) rfl
  have p1 := X1.cell (i := 1) rfl
  clear X0 X1
  have CT := fun W => tiles_b a b W
  have CO := fun W => tileOf_b a b x y W
  rw [hP] at CT
  rw [h] at CO
  have DT := Lib.hid CT
  have DO := Lib.hid CO
  clear CT CO hP h
  rcases hx with h1 | ⟨h1, h2⟩ | ⟨h1, h2, h3⟩ | ⟨h1, h2, h3, h4⟩ | ⟨h1, h2, h3, h4, h5⟩
  rotate_left 4
  have G5 : decide (y < b) = false := decide_eq_false (by omega)
  all_goals
    go_enter Try.func7, Try.ntmps7
    go_wp2_with (first | (go_at_call 9; refine (DO.out _).mono ?_; rintro _ _ ⟨rfl, B⟩; replace BB := bon BB B; replace s0 := cell_below B s0; replace s1 := cell_below B s1; replace p0 := cell_below B p0; replace p1 := cell_below B p1) | (go_at_call 20; refine (DT.out _).mono ?_; rintro _ _ ⟨rfl, B⟩; replace BB := bon BB B; replace s0 := cell_below B s0; replace s1 := cell_below B s1; replace p0 := cell_below B p0; replace p1 := cell_below B p1) | (go_at_call 10; refine (example36_b _).mono ?_; rintro _ _ ⟨rfl, B⟩; replace BB := bon BB B; replace s0 := cell_below B s0; replace s1 := cell_below B s1; replace p0 := cell_below B p0; replace p1 := cell_below B p1))
    first
      | (go_ret; exact ⟨rfl, BB⟩)
      | (skip
         have k_s0 := cell_regrown s0
         have k_s1 := cell_regrown s1
         have k_p0 := cell_regrown p0
         have k_p1 := cell_regrown p1
         refine wp_region_quiet_below (by kernel_rfl) (by kernel_rfl) ?_
         repeat (first | go_big_quiet_step ((first | (go_at_call 20; exact Calls.regrown_of (DT.out _)))) | quiet_step ((first | (go_at_call 20; exact Calls.regrown_of (DT.out _)))))
         refine wpQuiet_nil ?_
         intro W hw'
         have B := below_regrown' hw'
         clear hw' k_s0 k_s1 k_p0 k_p1
         replace BB := bon BB B
         replace s0 := cell_below B s0
         replace s1 := cell_below B s1
         replace p0 := cell_below B p0
         replace p1 := cell_below B p1
         go_wp2_with (first | (go_at_call 10; refine (example36_b _).mono ?_; rintro _ _ ⟨rfl, B⟩; replace BB := bon BB B; replace s0 := cell_below B s0; replace s1 := cell_below B s1; replace p0 := cell_below B p0; replace p1 := cell_below B p1))
         go_ret
         exact ⟨rfl, BB⟩)

set_option maxRecDepth 100000 in
set_option maxHeartbeats 2000000 in
theorem part_yes (a b x y P o : Int) (ha : szd a = true) (hb : szd b = true) (hP : tls a * tls b = P) (ho : tof a b x y = o) (ho2 : y / 8 * tls a + x / 8 = o) (h1 : 0 ≤ x) (h2 : x < a) (h3 : 0 ≤ y) (h4 : y < b) (w : World) : Calls Try.prog 7 #[.agg #[.int .i64 a, .int .i64 b], .agg #[.int .i64 x, .int .i64 y]] w fun e w' => e = .returned (.bool true) ∧ Below w.heap.size w w' := by
  have BB := box_below w #[.int .i64 a, .int .i64 b] 40
  have X0 := EBox.made w #[.int .i64 a, .int .i64 b] 40
  have hsz1 : (w.alloc (.cells #[.int .i64 a, .int .i64 b] 40)).heap.size = w.heap.size + 1 := by simp
  have X1 := EBox.made (w.alloc (.cells #[.int .i64 a, .int .i64 b] 40)) #[.int .i64 x, .int .i64 y] 40
  rw [hsz1] at X1
  replace X0 := X0.on (Nat.succ_pos _) (box_below (w.alloc (.cells #[.int .i64 a, .int .i64 b] 40)) #[.int .i64 x, .int .i64 y] 40)
  replace BB := bon BB (box_below (w.alloc (.cells #[.int .i64 a, .int .i64 b] 40)) #[.int .i64 x, .int .i64 y] 40)
  clear hsz1
  have s0 := X0.cell (i := 0) rfl
  have s1 := X0.cell (i := 1) rfl
  have p0 := X1.cell (i := 0) rfl
  have p1 := X1.cell (i := 1) rfl
  clear X0 X1
  have CT := fun W => tiles_b a b W
  have CO := fun W => tileOf_b a b x y W
  have hc := cols_yes ha hb
  obtain ⟨a1, a2⟩ := szd_yes ha
  obtain ⟨b1, b2⟩ := szd_yes hb
  rw [hc.1, hc.2, hP] at CT
  rw [ho] at CO
  have DT := Lib.hid CT
  have DO := Lib.hid CO
  have hp1 : 1 ≤ P ∧ P ≤ 64 := by
    have ta := tls_bd a1 a2
    have tb := tls_bd b1 b2
    rw [← hP]
    exact ⟨by have : 1 * 1 ≤ tls a * tls b := Int.mul_le_mul ta.1 tb.1 (by omega) (by omega); omega, by have : tls a * tls b ≤ 8 * 8 := Int.mul_le_mul ta.2.1 tb.2.1 (by omega) (by omega); omega⟩
  have KEY : Hid (∀ k : Nat, (k : Int) < P → ∃ X Y V U : Int, trv a b k = .tuple #[.int .i64 X, .int .i64 Y, .int .i64 V, .int .i64 U] ∧ ((X ≤ x ∧ x < X + V ∧ Y ≤ y ∧ y < Y + U) ↔ (k : Int) = o) ∧ 0 ≤ X ∧ X ≤ 64 ∧ 0 ≤ Y ∧ Y ≤ 64 ∧ 0 ≤ V ∧ V ≤ 8 ∧ 0 ≤ U ∧ U ≤ 8) := Lib.hid (by
    intro k hk
    have ta := tls_bd a1 a2
    have tb := tls_bd b1 b2
    have ht := tile_parts (c := tls a) (r := tls b) (t := (k : Int)) ta.1 (by omega) (by omega) (by omega)
    refine ⟨_, _, _, _, trv_yes (by rw [hc.1, hc.2]; omega), ?_, ?_⟩
    · rw [hc.1, ← ho2]
      exact tile_in ⟨a1, a2⟩ ⟨b1, b2⟩ ⟨h1, h2⟩ ⟨h3, h4⟩ (by omega) (by omega)
    · rw [hc.1]
      omega)
  obtain ⟨hp1, hp2⟩ := hp1
  obtain ⟨m, hm⟩ : ∃ m : Nat, P = (m : Int) := ⟨P.toNat, by omega⟩
  subst hm
  clear CT CO ha hb ho ho2 hP hc a1 a2 b1 b2
  go_enter Try.func7, Try.ntmps7
  go_wp2_with (first | (go_at_call 9; refine (DO.out _).mono ?_; rintro _ _ ⟨rfl, B⟩; replace BB := bon BB B; replace s0 := cell_below B s0; replace s1 := cell_below B s1; replace p0 := cell_below B p0; replace p1 := cell_below B p1) | (go_at_call 20; refine (DT.out _).mono ?_; rintro _ _ ⟨rfl, B⟩; replace BB := bon BB B; replace s0 := cell_below B s0; replace s1 := cell_below B s1; replace p0 := cell_below B p0; replace p1 := cell_below B p1))
  have BH := Lib.hid BB
  have S0 := Lib.hid s0
  have S1 := Lib.hid s1
  have Q0 := Lib.hid p0
  have Q1 := Lib.hid p1
  clear BB s0 s1 p0 p1
  rename World => W1
  go_loopw [7] (fun i wr => ∃ k : Nat, k ≤ m ∧ i = .int .i64 k ∧ Below W1.heap.size W1 wr) (fun i _ => m - (intOf i).toNat)
  case atStart => exact ⟨0, Nat.zero_le _, rfl, Below.refl _ _⟩
  case round =>
    obtain ⟨k, hk, rfl, BB⟩ := hrel
    rename World => wr
    have s0 := cell_below BB S0.out
    have s1 := cell_below BB S1.out
    have p0 := cell_below BB Q0.out
    have p1 := cell_below BB Q1.out
    by_cases hlt : k < m
    · obtain ⟨X, Y, V, U, ht, hiff, x1, x2, y1, y2, v1, v2, u1, u2⟩ := KEY.out k (by omega)
      have CR := fun W => rect_b a b (k : Int) W
      rw [ht] at CR
      have DR := Lib.hid CR
      clear CR ht
      rcases (show (X ≤ x ∧ x < X + V ∧ Y ≤ y ∧ y < Y + U ∧ (k : Int) = o) ∨ (x < X ∧ ¬ (k : Int) = o) ∨ (X ≤ x ∧ X + V ≤ x ∧ ¬ (k : Int) = o) ∨ (X ≤ x ∧ x < X + V ∧ y < Y ∧ ¬ (k : Int) = o) ∨ (X ≤ x ∧ x < X + V ∧ Y ≤ y ∧ Y + U ≤ y ∧ ¬ (k : Int) = o) by omega) with ⟨q1, q2, q3, q4, rfl⟩ | ⟨q1, q5⟩ | ⟨q1, q2, q5⟩ | ⟨q1, q2, q3, q5⟩ | ⟨q1, q2, q3, q4, q5⟩
      rotate_left 4
      have G4 : decide (y < Y + U) = false := decide_eq_false (by omega)
      have G5 : ((k : Int) == o) = false := by simpa using q5
      all_goals
        clear hiff
        go_wp2_with (first | (go_at_call 18; refine (DR.out _).mono ?_; rintro _ _ ⟨rfl, B⟩; replace BB := bon BB B; replace s0 := cell_below B s0; replace s1 := cell_below B s1; replace p0 := cell_below B p0; replace p1 := cell_below B p1) | (go_at_call 20; refine (DT.out _).mono ?_; rintro _ _ ⟨rfl, B⟩; replace BB := bon BB B; replace s0 := cell_below B s0; replace s1 := cell_below B s1; replace p0 := cell_below B p0; replace p1 := cell_below B p1))
        go_roundw
        case rel => exact ⟨k + 1, by omega, by go_num, BB⟩
        case measure => simp [intOf]; omega
    · obtain rfl : k = m := by omega
      clear KEY
      go_wp2_with (first
        | (go_at_call 20; (refine (DT.out _).mono ?_); rintro _ _ ⟨rfl, B⟩; replace BB := bon BB B; clear B)
        | (go_at_call 10; (refine (example36_b _).mono ?_); rintro _ _ ⟨rfl, B⟩; replace BB := bon BB B; clear B))
      go_ret
      exact ⟨rfl, bon BH.out BB⟩

theorem part_walk (a b x y : Int) (w : World) : Calls Try.prog 7 #[.agg #[.int .i64 a, .int .i64 b], .agg #[.int .i64 x, .int .i64 y]] w fun e w' => e = .returned (.bool true) ∧ Below w.heap.size w w' := by
  have hb := cols_bd a b
  cases hs : (szd a && szd b)
  · have hn : szd a = false ∨ szd b = false := and_no hs
    exact part_no a b x y _ rfl (tof_no (.inl hs)) (.inl (by rw [(cols_no hn).1, Int.zero_mul]; omega)) w
  · have hy : szd a = true ∧ szd b = true := by simpa using hs
    rcases Int.lt_or_le 0 (cols a b * rows a b) with hp | hp
    · rcases (show (x < 0 ∨ a ≤ x ∨ y < 0 ∨ b ≤ y) ∨ (0 ≤ x ∧ x < a ∧ 0 ≤ y ∧ y < b) by omega) with h | ⟨h1, h2, h3, h4⟩
      · exact part_no a b x y _ rfl (tof_no (.inr h)) (by omega) w
      · exact part_yes a b x y _ _ hy.1 hy.2 rfl rfl (tof_yes hy.1 hy.2 h1 h2 h3 h4).symm h1 h2 h3 h4 w
    · exfalso
      rw [(cols_yes hy.1 hy.2).1, (cols_yes hy.1 hy.2).2] at hp
      obtain ⟨a1, a2⟩ := szd_yes hy.1
      obtain ⟨b1, b2⟩ := szd_yes hy.2
      have ta := tls_bd a1 a2
      have tb := tls_bd b1 b2
      have : 1 * 1 ≤ tls a * tls b := Int.mul_le_mul ta.1 tb.1 (by omega) (by omega)
      omega

end Go.Proofs.Ytaeocpjddhghdaa
