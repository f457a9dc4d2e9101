/- The example; the walks of BufferInts, BufferFormats, BufferLoads, BufferAppends, BufferWords. -/
import Derived.Test.YtfiblgbglccmhaaB4
import Derived.Test.YtfiblgbglccmhaaB5a
import Derived.Test.YtfiblgbglccmhaaGrow
namespace Go.Proofs.Ytfiblgbglccmhaa
open Go.RowKit Go.Sort

theorem brd_lit (W : World) (cs : Array Value) (e : TypeId) (l : List Int) (n : Nat) (hl : l.length = n) (hr : ∀ x ∈ l, (0 : Int) ≤ x ∧ x ≤ 255) (hc : ∀ (j : Nat) (x : Int), l[j]? = some x → cs[j]? = some (Value.int .u8 x)) :
    Rd (W.alloc (.cells cs e)) (W.alloc (.cells cs e)).heap.size .u8 (some ⟨W.heap.size, 0, none⟩) n l :=
  ⟨hl, fun x hx => by rw [u8_min, u8_max]; exact hr x hx, fun _ => ⟨W.heap.size, 0, rfl, by simp, fun j x hx => by rw [Nat.zero_add]; exact box_cell W cs e j _ (hc j x hx)⟩⟩

theorem ex_1 : ldi [255, 255, 255, 255] 0 = -1 := by decide
theorem ex_2 : ldi [255, 255, 255, 255] 1 = 0 := by decide
theorem ex_3 : sti [255, 255, 255, 255] 0 1 = [1, 0, 0, 0] := by decide

set_option maxRecDepth 100000 in
theorem bexample_b (w : World) : Calls Try.prog 15 #[] w fun e w' => e = .returned (.bool true) ∧ Below w.heap.size w w' := by
  have K1 := brd_lit w #[.int .u8 255, .int .u8 255, .int .u8 255, .int .u8 255] 5 [255, 255, 255, 255] 4 rfl (by decide) (by intro j x hx; match j, hx with | 0, hx => simp at hx; subst hx; rfl | 1, hx => simp at hx; subst hx; rfl | 2, hx => simp at hx; subst hx; rfl | 3, hx => simp at hx; subst hx; rfl)
  have BB := box_below w #[.int .u8 255, .int .u8 255, .int .u8 255, .int .u8 255] 5
  have c1 := fun A c W R => loadInt_b A 4 c [255, 255, 255, 255] 0 W R (by omega)
  have c2 := fun A c W R => loadInt_b A 4 c [255, 255, 255, 255] 1 W R (by omega)
  have c3 := fun A c W R => storeInt_b A 4 c [255, 255, 255, 255] 0 1 W R (by omega)
  rw [ex_1] at c1
  rw [ex_2] at c2
  rw [ex_3] at c3
  have C1 := Lib.hid c1
  have C2 := Lib.hid c2
  have C3 := Lib.hid c3
  clear c1 c2 c3
  go_enter Try.func15, Try.ntmps15
  go_wp2_with (first
    | (go_at_call 10; (with_reducible refine (C1.out _ _ _ K1).mono ?_); rintro _ W1 ⟨rfl, B⟩; (replace BB := bon BB B; replace K1 := Rd.on K1 B))
    | (go_at_call 10; (with_reducible refine (C2.out _ _ _ K1).mono ?_); rintro _ W1 ⟨rfl, B⟩; (replace BB := bon BB B; replace K1 := Rd.on K1 B))
    | (go_at_call 13; (with_reducible refine (C3.out _ _ _ K1).mono ?_); rintro _ W2 ⟨A2, n2, d2, rfl, _, R2, B⟩; (replace BB := bon BB B; replace K1 := Rd.on K1 B))
    | (go_at_call 12; refine (same_b _ _ _ _ _ _ _ _ _ _ (R2.below ((Below.refl _ _).alloc (Nat.le_refl _) _)) (brd_lit W2 _ _ [1, 0, 0, 0] 4 rfl (by decide) (by intro j x hx; match j, hx with | 0, hx => simp at hx; subst hx; rfl | 1, hx => simp at hx; subst hx; rfl | 2, hx => simp at hx; subst hx; rfl | 3, hx => simp at hx; subst hx; rfl)) (by simp) (by simp) (by have := R2.len; simp at this; omega)).mono ?_; rintro _ W3 ⟨rfl, B⟩; replace BB := bon (bon BB (box_below _ _ _)) B; clear B))
  go_ret
  exact ⟨rfl, BB⟩

set_option maxRecDepth 100000 in
theorem ints_walk (A : Option Addr) (n c : Nat) (l : List Int) (i v : Int) (w : World) (R : Rd w w.heap.size .u8 A n l) (_hc : n ≤ c) (hn : n ≤ 140737488355328) :
    Calls Try.prog 3 #[.slice A n c, .int .i64 i, .int .i64 v] w fun e w' => e = .returned (.bool true) ∧ Below w.heap.size w w' := by
  have BB : Below w.heap.size w w := Below.refl _ _
  have hn' : n ≤ 9223372036854775807 := by omega
  have HE := Lib.hid ((sti_len l i v).trans R.len)
  have C1 := Lib.hid (fun W R => loadInt_b A n c l i W R hn')
  have C2 := Lib.hid (fun W R => rloadInt_b A n c l i W R hn')
  have C3 := Lib.hid (fun W R => storeInt_b A n c l i v W R hn)
  have C4 := Lib.hid (fun W R => rstoreInt_b A n c l i v W R hn)
  have K1 := R
  clear R hn'
  obtain ⟨x, hx⟩ : ∃ x, ldi l i = x := ⟨_, rfl⟩
  obtain ⟨s, hs⟩ : ∃ s, sti l i v = s := ⟨_, rfl⟩
  rw [hx] at C1 C2
  rw [hs] at C3 C4 HE
  clear hx hs
  go_enter Try.func3, Try.ntmps3
  go_wp2_with (first
    | (go_at_call 10; (with_reducible refine (C1.out _ K1).mono ?_); rintro _ W1 ⟨rfl, B⟩; (replace BB := bon BB B; replace K1 := Rd.on K1 B))
    | (go_at_call 11; (with_reducible refine (C2.out _ K1).mono ?_); rintro _ W1 ⟨rfl, B⟩; (replace BB := bon BB B; replace K1 := Rd.on K1 B))
    | (go_at_call 13; (with_reducible refine (C3.out _ K1).mono ?_); rintro _ W2 ⟨A2, n2, d2, rfl, _, R2, B⟩; (replace BB := bon BB B; replace K1 := Rd.on K1 B))
    | (go_at_call 14; (with_reducible refine (C4.out _ K1).mono ?_); rintro _ W3 ⟨A3, n3, d3, rfl, own3, B⟩; replace R2 := R2.on B; (replace BB := bon BB B; replace K1 := Rd.on K1 B))
    | (go_at_call 12; refine (same_b _ _ _ _ _ _ _ _ _ _ R2 own3.rd (Nat.le_refl _) (Nat.le_refl _) (by have h1 := R2.len; have h2 := HE.out; omega)).mono ?_; rintro _ W4 ⟨rfl, B⟩; clear R2 own3; (replace BB := bon BB B; replace K1 := Rd.on K1 B))
    | (go_at_call 15; (with_reducible refine (bexample_b _).mono ?_); rintro _ W9 ⟨rfl, B⟩; (replace BB := bon BB B; replace K1 := Rd.on K1 B)))
  go_ret
  exact ⟨rfl, BB⟩

set_option maxRecDepth 100000 in
theorem formats_walk (b o s f : Int) (w : World) :
    Calls Try.prog 4 #[.agg #[.int .i64 b, .int .i64 o, .int .i64 s, .int .i64 f]] w fun e w' => e = .returned (.bool true) ∧ Below w.heap.size w w' := by
  obtain ⟨a0, a1, a2, a3, BB⟩ := box4 w (.int .i64 b) (.int .i64 o) (.int .i64 s) (.int .i64 f) 30
  have C1 := Lib.hid (fun W => of_q (cps_q f W))
  have C2 := Lib.hid (fun W => of_q (rcps_q f W))
  have C3 := Lib.hid (fun W => of_q (size_q f W))
  have C4 := Lib.hid (fun W => of_q (rsize_q f W))
  have C5 := Lib.hid (fun W => attr_b b o s f W)
  have C6 := Lib.hid (fun W => rattr_b b o s f W)
  obtain ⟨x, hx⟩ : ∃ x, cps f = x := ⟨_, rfl⟩
  obtain ⟨y, hy⟩ : ∃ y, sizv f = y := ⟨_, rfl⟩
  obtain ⟨z, hz⟩ : ∃ z, decide (attr b o s f) = z := ⟨_, rfl⟩
  rw [hx] at C1 C2
  rw [hy] at C3 C4
  rw [hz] at C5 C6
  clear hx hy hz
  go_enter Try.func4, Try.ntmps4
  go_wp2_with fail
  have k_a0 := cell_regrown a0
  have k_a1 := cell_regrown a1
  have k_a2 := cell_regrown a2
  have k_a3 := cell_regrown a3
  refine wp_region_tail (n := 26) (by kernel_rfl) (by kernel_rfl) ?_
  simp only [List.take_succ_cons, List.take_zero, List.drop_succ_cons, List.drop_zero]
  repeat (first | go_big_quiet_step ((first | (go_at_call 16; exact Calls.regrown_of (C1.out _)) | (go_at_call 17; exact Calls.regrown_of (C2.out _)) | (go_at_call 18; exact Calls.regrown_of (C3.out _)) | (go_at_call 19; exact Calls.regrown_of (C4.out _)) | (go_at_call 20; exact Calls.regrown_of (C5.out _)) | (go_at_call 21; exact Calls.regrown_of (C6.out _)) | (go_at_call 15; exact Calls.regrown_of (bexample_b _)))) | quiet_step ((first | (go_at_call 16; exact Calls.regrown_of (C1.out _)) | (go_at_call 17; exact Calls.regrown_of (C2.out _)) | (go_at_call 18; exact Calls.regrown_of (C3.out _)) | (go_at_call 19; exact Calls.regrown_of (C4.out _)) | (go_at_call 20; exact Calls.regrown_of (C5.out _)) | (go_at_call 21; exact Calls.regrown_of (C6.out _)) | (go_at_call 15; exact Calls.regrown_of (bexample_b _)))))
  refine wpQuiet_nil ?_
  intro W hw'
  have B := below_regrown' hw'
  clear hw' k_a0 k_a1 k_a2 k_a3
  replace BB := bon BB B
  replace a0 := cell_below B a0
  replace a1 := cell_below B a1
  replace a2 := cell_below B a2
  replace a3 := cell_below B a3
  go_wp2
  go_ret
  exact ⟨rfl, BB⟩

set_option maxRecDepth 100000 in
theorem loads_walk (A : Option Addr) (n c : Nat) (l : List Int) (b o s f v : Int) (w : World) (R : Rd w w.heap.size .u8 A n l) (_hc : n ≤ c) (hn : n ≤ 140737488355328) :
    Calls Try.prog 5 #[.slice A n c, .agg #[.int .i64 b, .int .i64 o, .int .i64 s, .int .i64 f], .int .i64 v] w fun e w' => e = .returned (.bool true) ∧ Below w.heap.size w w' := by
  obtain ⟨a0, a1, a2, a3, BB⟩ := box4 w (.int .i64 b) (.int .i64 o) (.int .i64 s) (.int .i64 f) 30
  have hl := ldv_len l b o s f v
  have C1 := Lib.hid (fun W R => load_b A n c l b o s f v W R (by omega))
  have C2 := Lib.hid (fun W R => rload_b A n c l b o s f v W R (by omega))
  have K1 := R.on BB
  clear R
  obtain ⟨x, hx⟩ : ∃ x, ldv l b o s f v = x := ⟨_, rfl⟩
  rw [hx] at C1 C2 hl
  clear hx
  go_enter Try.func5, Try.ntmps5
  go_wp2_with fail
  refine wp_region_grow [0, 1, 2, 4, 5, 6, 3, 7, 8, 9, 10, 11, 12] (by kernel_rfl) (by kernel_rfl) ?_
  intro W B
  replace BB := bon BB B
  replace K1 := Rd.on K1 B
  replace a0 := cell_below B a0
  replace a1 := cell_below B a1
  replace a2 := cell_below B a2
  replace a3 := cell_below B a3
  clear B
  have k_a0 := cell_regrown a0
  have k_a1 := cell_regrown a1
  have k_a2 := cell_regrown a2
  have k_a3 := cell_regrown a3
  refine grow_read rfl rfl ?_
  (first | go_big_quiet_step (fail) | quiet_step (fail))
  refine wpQuiet_nil ?_
  refine grow_read rfl rfl ?_
  (first | go_big_quiet_step (fail) | quiet_step (fail))
  refine wpQuiet_nil ?_
  refine grow_read rfl rfl ?_
  (first | go_big_quiet_step (fail) | quiet_step (fail))
  refine wpQuiet_nil ?_
  refine grow_read rfl rfl ?_
  (first | go_big_quiet_step (fail) | quiet_step (fail))
  refine wpQuiet_nil ?_
  refine grow_read rfl rfl ?_
  (first | go_big_quiet_step (fail) | quiet_step (fail))
  refine wpQuiet_nil ?_
  refine grow_read rfl rfl ?_
  (first | go_big_quiet_step (fail) | quiet_step (fail))
  refine wpQuiet_nil ?_
  clear k_a0 k_a1 k_a2 k_a3
  refine grow_call rfl rfl ?_
  go_wp2_with (go_at_call 23; refine (C1.out _ K1).mono ?_; rintro _ _ ⟨A2, n2, d2, rfl, _, R2, B⟩; replace BB := bon BB B; replace K1 := Rd.on K1 B; replace a0 := cell_below B a0; replace a1 := cell_below B a1; replace a2 := cell_below B a2; replace a3 := cell_below B a3)
  refine ⟨Grows.of B, ?_⟩
  clear B
  have k_a0 := cell_regrown a0
  have k_a1 := cell_regrown a1
  have k_a2 := cell_regrown a2
  have k_a3 := cell_regrown a3
  clear k_a0 k_a1 k_a2 k_a3
  refine grow_call rfl rfl ?_
  go_wp2_with (go_at_call 24; refine (C2.out _ K1).mono ?_; rintro _ _ ⟨A3, n3, d3, rfl, _, R3, B⟩; replace R2 := R2.on B; replace BB := bon BB B; replace K1 := Rd.on K1 B; replace a0 := cell_below B a0; replace a1 := cell_below B a1; replace a2 := cell_below B a2; replace a3 := cell_below B a3)
  refine ⟨Grows.of B, ?_⟩
  clear B
  have k_a0 := cell_regrown a0
  have k_a1 := cell_regrown a1
  have k_a2 := cell_regrown a2
  have k_a3 := cell_regrown a3
  clear k_a0 k_a1 k_a2 k_a3
  refine grow_call rfl rfl ?_
  go_wp2_with (go_at_call 22; refine (sameInts_b _ _ _ _ _ _ _ _ _ _ R2 R3 (Nat.le_refl _) (Nat.le_refl _) (by have h1 := R2.len; omega)).mono ?_; rintro _ _ ⟨rfl, B⟩; replace BB := bon BB B; replace K1 := Rd.on K1 B; replace a0 := cell_below B a0; replace a1 := cell_below B a1; replace a2 := cell_below B a2; replace a3 := cell_below B a3)
  refine ⟨Grows.of B, ?_⟩
  clear B
  have k_a0 := cell_regrown a0
  have k_a1 := cell_regrown a1
  have k_a2 := cell_regrown a2
  have k_a3 := cell_regrown a3
  refine grow_read rfl rfl ?_
  (first | go_big_quiet_step (fail) | quiet_step (fail))
  refine wpQuiet_nil ?_
  clear k_a0 k_a1 k_a2 k_a3
  refine grow_call rfl rfl ?_
  go_wp2_with (go_at_call 15; refine (bexample_b _).mono ?_; rintro _ _ ⟨rfl, B⟩; replace BB := bon BB B; replace K1 := Rd.on K1 B; replace a0 := cell_below B a0; replace a1 := cell_below B a1; replace a2 := cell_below B a2; replace a3 := cell_below B a3)
  refine ⟨Grows.of B, ?_⟩
  clear B
  have k_a0 := cell_regrown a0
  have k_a1 := cell_regrown a1
  have k_a2 := cell_regrown a2
  have k_a3 := cell_regrown a3
  refine grow_read rfl rfl ?_
  (first | go_big_quiet_step (fail) | quiet_step (fail))
  refine wpQuiet_nil ?_
  refine grow_read rfl rfl ?_
  (first | go_big_quiet_step (fail) | quiet_step (fail))
  refine wpQuiet_nil ?_
  clear k_a0 k_a1 k_a2 k_a3
  refine grow_nil ?_
  go_wp2
  go_ret
  exact ⟨rfl, BB⟩

set_option maxRecDepth 100000 in
theorem appends_walk (A A2 : Option Addr) (n c n2 c2 : Nat) (l vs : List Int) (f : Int) (w : World) (R : Rd w w.heap.size .u8 A n l) (R2 : Rd w w.heap.size .i64 A2 n2 vs) (_hc : n ≤ c) (_hc2 : n2 ≤ c2) (hn : n ≤ 140737488351232) (hn2 : n2 * 8 ≤ 140737488351232) :
    Calls Try.prog 6 #[.slice A n c, .int .i64 f, .slice A2 n2 c2] w fun e w' => e = .returned (.bool true) ∧ Below w.heap.size w w' := by
  have BB : Below w.heap.size w w := Below.refl _ _
  have hl : (l ++ bts f vs (cps f)).length ≤ n + 16 := by
    rw [List.length_append, bts_len, R.len]
    have := sizv_le f
    unfold sizv at this
    omega
  have C1 := Lib.hid (fun W R R2 => append_b A A2 n c n2 c2 l vs f W R R2 hn)
  have C2 := Lib.hid (fun W R R2 => rappend_b A A2 n c n2 c2 l vs f W R R2 hn (by omega))
  have K1 := R
  have K2 := R2
  clear R R2
  obtain ⟨x, hx⟩ : ∃ x, l ++ bts f vs (cps f) = x := ⟨_, rfl⟩
  rw [hx] at C1 C2 hl
  clear hx
  go_enter Try.func6, Try.ntmps6
  go_wp2_with (first
    | (go_at_call 25; (with_reducible refine (C1.out _ K1 K2).mono ?_); rintro _ W2 ⟨A3, n3, d3, rfl, _, R3, B⟩; (replace BB := bon BB B; replace K1 := Rd.on K1 B; replace K2 := Rd.on K2 B))
    | (go_at_call 26; (with_reducible refine (C2.out _ K1 K2).mono ?_); rintro _ W3 ⟨A4, n4, d4, rfl, _, R4, B⟩; replace R3 := R3.on B; (replace BB := bon BB B; replace K1 := Rd.on K1 B; replace K2 := Rd.on K2 B))
    | (go_at_call 12; refine (same_b _ _ _ _ _ _ _ _ _ _ R3 R4 (Nat.le_refl _) (Nat.le_refl _) (by have h1 := R3.len; omega)).mono ?_; rintro _ W4 ⟨rfl, B⟩; clear R3 R4; (replace BB := bon BB B; replace K1 := Rd.on K1 B; replace K2 := Rd.on K2 B))
    | (go_at_call 15; (with_reducible refine (bexample_b _).mono ?_); rintro _ W9 ⟨rfl, B⟩; (replace BB := bon BB B; replace K1 := Rd.on K1 B; replace K2 := Rd.on K2 B)))
  go_ret
  exact ⟨rfl, BB⟩

set_option maxRecDepth 100000 in
theorem words_walk (A : Option Addr) (n c : Nat) (l : List Int) (i v : Int) (w : World) (R : Rd w w.heap.size .u8 A n l) (_hc : n ≤ c) (hn : n ≤ 140737488355328) :
    Calls Try.prog 8 #[.slice A n c, .int .i64 i, .int .i64 v] w fun e w' => e = .returned (.bool true) ∧ Below w.heap.size w w' := by
  have BB : Below w.heap.size w w := Below.refl _ _
  by_cases h : (0 ≤ i ∧ i < (n : Int) / 4) ∧ -2147483648 ≤ v ∧ v ≤ 2147483647
  · obtain ⟨h1, h2, h3⟩ := h
    have he := ldi_sti (l := l) (i := i) (v := v) (by rw [R.len]; exact h1) h2 h3
    have HL := Lib.hid ((sti_len l i v).trans R.len)
    obtain ⟨g1, g2⟩ := h1
    have C3 := Lib.hid (fun W R => storeInt_b A n c l i v W R hn)
    obtain ⟨s, hs⟩ : ∃ s, sti l i v = s := ⟨_, rfl⟩
    rw [hs] at C3 he HL
    have C1 := Lib.hid (fun A n c W R h => loadInt_b A n c s i W R h)
    rw [he] at C1
    have K1 := R
    clear R hs he
    go_enter Try.func8, Try.ntmps8
    go_wp2_with (first
      | (go_at_call 13; (with_reducible refine (C3.out _ K1).mono ?_); rintro _ W2 ⟨A2, n2, d2, rfl, _, R2, B⟩; (replace BB := bon BB B; replace K1 := Rd.on K1 B))
      | (go_at_call 10; (with_reducible refine (C1.out _ _ _ _ R2 (by have h1 := R2.len; have h2 := HL.out; omega)).mono ?_); rintro _ W1 ⟨rfl, B⟩; clear R2; (replace BB := bon BB B; replace K1 := Rd.on K1 B))
      | (go_at_call 15; (with_reducible refine (bexample_b _).mono ?_); rintro _ W9 ⟨rfl, B⟩; (replace BB := bon BB B; replace K1 := Rd.on K1 B)))
    go_ret
    exact ⟨rfl, BB⟩
  · have K1 := R
    clear R
    rcases (show i < 0 ∨ (0 ≤ i ∧ (n : Int) / 4 ≤ i) ∨ (0 ≤ i ∧ i < (n : Int) / 4 ∧ v < -2147483648) ∨ (0 ≤ i ∧ i < (n : Int) / 4 ∧ -2147483648 ≤ v ∧ 2147483647 < v) by omega) with h1 | ⟨h1, h2⟩ | ⟨h1, h2, h3⟩ | ⟨h1, h2, h3, h4⟩
    all_goals
      clear h
      go_enter Try.func8, Try.ntmps8
      go_wp2_with (first | (go_at_call 15; refine (bexample_b _).mono ?_; rintro _ _ ⟨rfl, B⟩; replace BB := bon BB B; replace K1 := Rd.on K1 B))
      go_ret
      exact ⟨rfl, BB⟩

end Go.Proofs.Ytfiblgbglccmhaa
