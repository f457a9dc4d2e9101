/- The walk of ViewportEqual. -/
import Derived.Test.YtfpnbgmmgnpggaaVP4
namespace Go.Proofs.Ytfpnbgmmgnpggaa
set_option linter.unusedSimpArgs false
open Go.RowKit Go.Sort Go.ChangeShapes Go.WideShapes
set_option linter.unusedVariables false

theorem rk_sx : RowK Try.prog 29 5 := ⟨⟨_, Try.underlying29, rfl⟩, by kernel_rfl⟩

set_option maxRecDepth 100000 in
set_option maxHeartbeats 1000000 in
theorem sleq_b (A A2 : Option Addr) (n n2 c c2 : Nat) (l m : List Int) (w : World) (R1 : Rd w w.heap.size .i64 A n l) (R2 : Rd w w.heap.size .i64 A2 n2 m) (hn : n ≤ 9223372036854775807) (hn2 : n2 ≤ 9223372036854775807) :
    Calls Try.prog 29 #[.slice A n c, .slice A2 n2 c2] w fun e w' => e = .returned (.bool (decide (l = m))) ∧ Below w.heap.size w w' := by
  have e1 := R1.len
  have e2 := R2.len
  have K1 := Lib.hid R1
  have K2 := Lib.hid R2
  clear R1 R2
  by_cases hne : n2 = n
  · subst hne
    go_enter Try.func29, Try.ntmps29
    go_wp2
    go_loopw [13] (fun i wr => ∃ k : Nat, k ≤ n2 ∧ i = .int .i64 k ∧ (∀ j, j < k → l[j]? = m[j]?) ∧ Below w.heap.size w wr) (fun i _ => n2 - (intOf i).toNat)
    case atStart => exact ⟨0, Nat.zero_le _, rfl, fun j hj => absurd hj (by omega), Below.refl _ _⟩
    case round =>
      obtain ⟨k, hk, rfl, hs, BB⟩ := hrel
      rename World => wr
      by_cases hlt : k < n2
      · obtain ⟨b1, o1, x, rfl, q1, x0, x1, hx⟩ := (K1.out.below BB).int hlt
        obtain ⟨b2, o2, y, rfl, q2, y0, y1, hy⟩ := (K2.out.below BB).int hlt
        by_cases hxy : y = x
        · subst hxy
          have HS : Hid (∀ j, j < k + 1 → l[j]? = m[j]?) := Lib.hid fun j hj => by
            rcases Nat.lt_succ_iff_lt_or_eq.1 hj with h | rfl
            · exact hs j h
            · rw [hx.out, hy.out]
          clear hs hx hy K1 K2
          go_wp2_with fail
          have k_q1 := cell_regrown q1
          have k_q2 := cell_regrown q2
          refine wp_region_quiet_below (by kernel_rfl) (by kernel_rfl) ?_
          repeat (first | go_big_quiet_step ((first | fail)) | quiet_step ((first | fail)))
          refine wpQuiet_nil ?_
          intro W hw'
          have B := below_regrown' hw'
          clear hw' k_q1 k_q2
          replace BB := bon BB B
          replace q1 := cell_below B q1
          replace q2 := cell_below B q2
          go_wp2
          go_roundw
          case rel => exact ⟨k + 1, by omega, by go_num, HS.out, BB⟩
          case measure => simp [intOf]; omega
        · have HS : Hid (decide (l = m) = false) := Lib.hid (by
            rw [decide_eq_false_iff_not]
            rintro rfl
            have h := hx.out.symm.trans hy.out
            injection h with h
            exact hxy h.symm)
          have G1 : (x == y) = false := by simpa using fun h => hxy (Eq.symm h)
          have G2 : (x != y) = true := by simp [bne, G1]
          clear hs hx hy K1 K2
          go_wp2_with fail
          have k_q1 := cell_regrown q1
          have k_q2 := cell_regrown q2
          refine wp_region_quiet_below (by kernel_rfl) (by kernel_rfl) ?_
          repeat (first | go_big_quiet_step ((first | fail)) | quiet_step ((first | fail)))
          refine wpQuiet_nil ?_
          intro W hw'
          have B := below_regrown' hw'
          clear hw' k_q1 k_q2
          replace BB := bon BB B
          replace q1 := cell_below B q1
          replace q2 := cell_below B q2
          go_wp2
          go_ret
          exact ⟨ret_bool HS.out.symm, BB⟩
      · obtain rfl : k = n2 := by omega
        have HS : Hid (decide (l = m) = true) := Lib.hid (by
          rw [decide_eq_true_iff]
          refine List.ext_getElem? fun j => ?_
          rcases Nat.lt_or_ge j k with h | h
          · exact hs j h
          · rw [List.getElem?_eq_none (by omega), List.getElem?_eq_none (by omega)])
        clear hs K1 K2
        go_wp2
        go_ret
        exact ⟨ret_bool HS.out.symm, BB⟩
  · rw [show decide (l = m) = false from decide_eq_false (by rintro rfl; omega)]
    have g1 : ((n : Int) == (n2 : Int)) = false := by simp; omega
    have g2 : ((n : Int) != (n2 : Int)) = true := by simp; omega
    go_enter Try.func29, Try.ntmps29
    go_wp2
    go_ret
    exact ⟨rfl, Below.refl _ _⟩

set_option maxRecDepth 100000 in
set_option maxHeartbeats 1000000 in
theorem sint_b (A A2 : Option Addr) (n n2 c c2 : Nat) (l m : List Int) (w : World) (R1 : Rd w w.heap.size .i64 A n l) (R2 : Rd w w.heap.size .i64 A2 n2 m) (hn : n ≤ 9223372036854775807) (hn2 : n2 ≤ 9223372036854775807) :
    Calls Try.prog 24 #[.slice A n c, .slice A2 n2 c2] w fun e w' => e = .returned (.bool (decide (l = m))) ∧ Below w.heap.size w w' := by
  have e1 := R1.len
  have e2 := R2.len
  have K1 := Lib.hid R1
  have K2 := Lib.hid R2
  clear R1 R2
  by_cases hne : n2 = n
  · subst hne
    go_enter Try.func24, Try.ntmps24
    go_wp2
    go_loopw [5] (fun i wr => ∃ k : Nat, k ≤ n2 ∧ i = .int .i64 k ∧ (∀ j, j < k → l[j]? = m[j]?) ∧ Below w.heap.size w wr) (fun i _ => n2 - (intOf i).toNat)
    case atStart => exact ⟨0, Nat.zero_le _, rfl, fun j hj => absurd hj (by omega), Below.refl _ _⟩
    case round =>
      obtain ⟨k, hk, rfl, hs, BB⟩ := hrel
      rename World => wr
      by_cases hlt : k < n2
      · obtain ⟨b1, o1, x, rfl, q1, x0, x1, hx⟩ := (K1.out.below BB).int hlt
        obtain ⟨b2, o2, y, rfl, q2, y0, y1, hy⟩ := (K2.out.below BB).int hlt
        by_cases hxy : y = x
        · subst hxy
          have HS : Hid (∀ j, j < k + 1 → l[j]? = m[j]?) := Lib.hid fun j hj => by
            rcases Nat.lt_succ_iff_lt_or_eq.1 hj with h | rfl
            · exact hs j h
            · rw [hx.out, hy.out]
          clear hs hx hy K1 K2
          go_wp2_with fail
          have k_q1 := cell_regrown q1
          have k_q2 := cell_regrown q2
          refine wp_region_quiet_below (by kernel_rfl) (by kernel_rfl) ?_
          repeat (first | go_big_quiet_step ((first | fail)) | quiet_step ((first | fail)))
          refine wpQuiet_nil ?_
          intro W hw'
          have B := below_regrown' hw'
          clear hw' k_q1 k_q2
          replace BB := bon BB B
          replace q1 := cell_below B q1
          replace q2 := cell_below B q2
          go_wp2
          go_roundw
          case rel => exact ⟨k + 1, by omega, by go_num, HS.out, BB⟩
          case measure => simp [intOf]; omega
        · have HS : Hid (decide (l = m) = false) := Lib.hid (by
            rw [decide_eq_false_iff_not]
            rintro rfl
            have h := hx.out.symm.trans hy.out
            injection h with h
            exact hxy h.symm)
          have G1 : (x == y) = false := by simpa using fun h => hxy (Eq.symm h)
          have G2 : (x != y) = true := by simp [bne, G1]
          clear hs hx hy K1 K2
          go_wp2_with fail
          have k_q1 := cell_regrown q1
          have k_q2 := cell_regrown q2
          refine wp_region_quiet_below (by kernel_rfl) (by kernel_rfl) ?_
          repeat (first | go_big_quiet_step ((first | fail)) | quiet_step ((first | fail)))
          refine wpQuiet_nil ?_
          intro W hw'
          have B := below_regrown' hw'
          clear hw' k_q1 k_q2
          replace BB := bon BB B
          replace q1 := cell_below B q1
          replace q2 := cell_below B q2
          go_wp2
          go_ret
          exact ⟨ret_bool HS.out.symm, BB⟩
      · obtain rfl : k = n2 := by omega
        have HS : Hid (decide (l = m) = true) := Lib.hid (by
          rw [decide_eq_true_iff]
          refine List.ext_getElem? fun j => ?_
          rcases Nat.lt_or_ge j k with h | h
          · exact hs j h
          · rw [List.getElem?_eq_none (by omega), List.getElem?_eq_none (by omega)])
        clear hs K1 K2
        go_wp2
        go_ret
        exact ⟨ret_bool HS.out.symm, BB⟩
  · rw [show decide (l = m) = false from decide_eq_false (by rintro rfl; omega)]
    have g1 : ((n : Int) == (n2 : Int)) = false := by simp; omega
    have g2 : ((n : Int) != (n2 : Int)) = true := by simp; omega
    go_enter Try.func24, Try.ntmps24
    go_wp2
    go_ret
    exact ⟨rfl, Below.refl _ _⟩

/-- Two vertices are equal. -/
def eqv (x y z q x2 y2 z2 q2 : Int) (l m : List Int) : Bool := x == x2 && (y == y2 && (z == z2 && (q == q2 && decide (l = m))))

set_option maxRecDepth 100000 in
set_option maxHeartbeats 1000000 in
theorem pequal_b (x y z q x2 y2 z2 q2 : Int) (A A2 : Option Addr) (n n2 c c2 : Nat) (l m : List Int) (w : World) (R1 : Rd w w.heap.size .i64 A n l) (R2 : Rd w w.heap.size .i64 A2 n2 m) (hn : n ≤ 9223372036854775807) (hn2 : n2 ≤ 9223372036854775807) :
    Calls Try.prog 16 #[.agg #[.int .i64 x, .int .i64 y, .int .i64 z, .int .i64 q, .slice A n c], .agg #[.int .i64 x2, .int .i64 y2, .int .i64 z2, .int .i64 q2, .slice A2 n2 c2]] w fun e w' => e = .returned (.bool (eqv x y z q x2 y2 z2 q2 l m)) ∧ Below w.heap.size w w' := by
  have K1 := Lib.hid R1
  have K2 := Lib.hid R2
  clear R1 R2
  have BB := box_below w #[.int .i64 x, .int .i64 y, .int .i64 z, .int .i64 q, .slice A n c] 29
  have X0 := EBox.made w #[.int .i64 x, .int .i64 y, .int .i64 z, .int .i64 q, .slice A n c] 29
  have hsz1 : (w.alloc (.cells #[.int .i64 x, .int .i64 y, .int .i64 z, .int .i64 q, .slice A n c] 29)).heap.size = w.heap.size + 1 := by simp
  have X1 := EBox.made (w.alloc (.cells #[.int .i64 x, .int .i64 y, .int .i64 z, .int .i64 q, .slice A n c] 29)) #[.int .i64 x2, .int .i64 y2, .int .i64 z2, .int .i64 q2, .slice A2 n2 c2] 29
  rw [hsz1] at X1
  replace X0 := X0.on (Nat.succ_pos _) (box_below (w.alloc (.cells #[.int .i64 x, .int .i64 y, .int .i64 z, .int .i64 q, .slice A n c] 29)) #[.int .i64 x2, .int .i64 y2, .int .i64 z2, .int .i64 q2, .slice A2 n2 c2] 29)
  replace BB := bon BB (box_below (w.alloc (.cells #[.int .i64 x, .int .i64 y, .int .i64 z, .int .i64 q, .slice A n c] 29)) #[.int .i64 x2, .int .i64 y2, .int .i64 z2, .int .i64 q2, .slice A2 n2 c2] 29)
  clear hsz1
  have e0 := X0.cell (i := 0) rfl
  have e1 := X0.cell (i := 1) rfl
  have e2 := X0.cell (i := 2) rfl
  have e3 := X0.cell (i := 3) rfl
  have e4 := X0.cell (i := 4) rfl
  have f0 := X1.cell (i := 0) rfl
  have f1 := X1.cell (i := 1) rfl
  have f2 := X1.cell (i := 2) rfl
  have f3 := X1.cell (i := 3) rfl
  have f4 := X1.cell (i := 4) rfl
  clear X0 X1
  by_cases hx : x = x2
  case neg =>
    have g : (x == x2) = false := by simpa using hx
    rw [show eqv x y z q x2 y2 z2 q2 l m = false by simp [eqv, hx]]
    go_enter Try.func16, Try.ntmps16
    go_wp2_with (go_at_call 29; (refine (sleq_b A A2 n n2 c c2 l m _ ((K1.out.below BB).more BB.size) ((K2.out.below BB).more BB.size) hn hn2).mono ?_); rintro _ _ ⟨rfl, B⟩; replace BB := bon BB B; clear B)
    go_ret
    exact ⟨rfl, BB⟩
  subst hx
  by_cases hy : y = y2
  case neg =>
    have g : (y == y2) = false := by simpa using hy
    rw [show eqv x y z q x y2 z2 q2 l m = false by simp [eqv, hy]]
    go_enter Try.func16, Try.ntmps16
    go_wp2_with (go_at_call 29; (refine (sleq_b A A2 n n2 c c2 l m _ ((K1.out.below BB).more BB.size) ((K2.out.below BB).more BB.size) hn hn2).mono ?_); rintro _ _ ⟨rfl, B⟩; replace BB := bon BB B; clear B)
    go_ret
    exact ⟨rfl, BB⟩
  subst hy
  by_cases hz : z = z2
  case neg =>
    have g : (z == z2) = false := by simpa using hz
    rw [show eqv x y z q x y z2 q2 l m = false by simp [eqv, hz]]
    go_enter Try.func16, Try.ntmps16
    go_wp2_with (go_at_call 29; (refine (sleq_b A A2 n n2 c c2 l m _ ((K1.out.below BB).more BB.size) ((K2.out.below BB).more BB.size) hn hn2).mono ?_); rintro _ _ ⟨rfl, B⟩; replace BB := bon BB B; clear B)
    go_ret
    exact ⟨rfl, BB⟩
  subst hz
  by_cases hq : q = q2
  case neg =>
    have g : (q == q2) = false := by simpa using hq
    rw [show eqv x y z q x y z q2 l m = false by simp [eqv, hq]]
    go_enter Try.func16, Try.ntmps16
    go_wp2_with (go_at_call 29; (refine (sleq_b A A2 n n2 c c2 l m _ ((K1.out.below BB).more BB.size) ((K2.out.below BB).more BB.size) hn hn2).mono ?_); rintro _ _ ⟨rfl, B⟩; replace BB := bon BB B; clear B)
    go_ret
    exact ⟨rfl, BB⟩
  subst hq
  rw [show eqv x y z q x y z q l m = decide (l = m) by simp [eqv]]
  go_enter Try.func16, Try.ntmps16
  go_wp2_with (go_at_call 29; (refine (sleq_b A A2 n n2 c c2 l m _ ((K1.out.below BB).more BB.size) ((K2.out.below BB).more BB.size) hn hn2).mono ?_); rintro _ _ ⟨rfl, B⟩; replace BB := bon BB B; clear B)
  go_ret
  exact ⟨rfl, BB⟩

set_option maxRecDepth 100000 in
set_option maxHeartbeats 1000000 in
theorem requal_b (x y z q x2 y2 z2 q2 : Int) (A A2 : Option Addr) (n n2 c c2 : Nat) (l m : List Int) (w : World) (R1 : Rd w w.heap.size .i64 A n l) (R2 : Rd w w.heap.size .i64 A2 n2 m) (hn : n ≤ 9223372036854775807) (hn2 : n2 ≤ 9223372036854775807) :
    Calls Try.prog 17 #[.agg #[.int .i64 x, .int .i64 y, .int .i64 z, .int .i64 q, .slice A n c], .agg #[.int .i64 x2, .int .i64 y2, .int .i64 z2, .int .i64 q2, .slice A2 n2 c2]] w fun e w' => e = .returned (.bool (eqv x y z q x2 y2 z2 q2 l m)) ∧ Below w.heap.size w w' := by
  have K1 := Lib.hid R1
  have K2 := Lib.hid R2
  clear R1 R2
  have BB := box_below w #[.int .i64 x, .int .i64 y, .int .i64 z, .int .i64 q, .slice A n c] 29
  have X0 := EBox.made w #[.int .i64 x, .int .i64 y, .int .i64 z, .int .i64 q, .slice A n c] 29
  have hsz1 : (w.alloc (.cells #[.int .i64 x, .int .i64 y, .int .i64 z, .int .i64 q, .slice A n c] 29)).heap.size = w.heap.size + 1 := by simp
  have X1 := EBox.made (w.alloc (.cells #[.int .i64 x, .int .i64 y, .int .i64 z, .int .i64 q, .slice A n c] 29)) #[.int .i64 x2, .int .i64 y2, .int .i64 z2, .int .i64 q2, .slice A2 n2 c2] 29
  rw [hsz1] at X1
  replace X0 := X0.on (Nat.succ_pos _) (box_below (w.alloc (.cells #[.int .i64 x, .int .i64 y, .int .i64 z, .int .i64 q, .slice A n c] 29)) #[.int .i64 x2, .int .i64 y2, .int .i64 z2, .int .i64 q2, .slice A2 n2 c2] 29)
  replace BB := bon BB (box_below (w.alloc (.cells #[.int .i64 x, .int .i64 y, .int .i64 z, .int .i64 q, .slice A n c] 29)) #[.int .i64 x2, .int .i64 y2, .int .i64 z2, .int .i64 q2, .slice A2 n2 c2] 29)
  clear hsz1
  have e0 := X0.cell (i := 0) rfl
  have e1 := X0.cell (i := 1) rfl
  have e2 := X0.cell (i := 2) rfl
  have e3 := X0.cell (i := 3) rfl
  have e4 := X0.cell (i := 4) rfl
  have f0 := X1.cell (i := 0) rfl
  have f1 := X1.cell (i := 1) rfl
  have f2 := X1.cell (i := 2) rfl
  have f3 := X1.cell (i := 3) rfl
  have f4 := X1.cell (i := 4) rfl
  clear X0 X1
  by_cases hx : x = x2
  case neg =>
    have g : (x == x2) = false := by simpa using hx
    rw [show eqv x y z q x2 y2 z2 q2 l m = false by simp [eqv, hx]]
    go_enter Try.func17, Try.ntmps17
    go_wp2_with (go_at_call 24; (refine (sint_b A A2 n n2 c c2 l m _ ((K1.out.below BB).more BB.size) ((K2.out.below BB).more BB.size) hn hn2).mono ?_); rintro _ _ ⟨rfl, B⟩; replace BB := bon BB B; clear B)
    go_ret
    exact ⟨rfl, BB⟩
  subst hx
  by_cases hy : y = y2
  case neg =>
    have g : (y == y2) = false := by simpa using hy
    rw [show eqv x y z q x y2 z2 q2 l m = false by simp [eqv, hy]]
    go_enter Try.func17, Try.ntmps17
    go_wp2_with (go_at_call 24; (refine (sint_b A A2 n n2 c c2 l m _ ((K1.out.below BB).more BB.size) ((K2.out.below BB).more BB.size) hn hn2).mono ?_); rintro _ _ ⟨rfl, B⟩; replace BB := bon BB B; clear B)
    go_ret
    exact ⟨rfl, BB⟩
  subst hy
  by_cases hz : z = z2
  case neg =>
    have g : (z == z2) = false := by simpa using hz
    rw [show eqv x y z q x y z2 q2 l m = false by simp [eqv, hz]]
    go_enter Try.func17, Try.ntmps17
    go_wp2_with (go_at_call 24; (refine (sint_b A A2 n n2 c c2 l m _ ((K1.out.below BB).more BB.size) ((K2.out.below BB).more BB.size) hn hn2).mono ?_); rintro _ _ ⟨rfl, B⟩; replace BB := bon BB B; clear B)
    go_ret
    exact ⟨rfl, BB⟩
  subst hz
  by_cases hq : q = q2
  case neg =>
    have g : (q == q2) = false := by simpa using hq
    rw [show eqv x y z q x y z q2 l m = false by simp [eqv, hq]]
    go_enter Try.func17, Try.ntmps17
    go_wp2_with (go_at_call 24; (refine (sint_b A A2 n n2 c c2 l m _ ((K1.out.below BB).more BB.size) ((K2.out.below BB).more BB.size) hn hn2).mono ?_); rintro _ _ ⟨rfl, B⟩; replace BB := bon BB B; clear B)
    go_ret
    exact ⟨rfl, BB⟩
  subst hq
  rw [show eqv x y z q x y z q l m = decide (l = m) by simp [eqv]]
  go_enter Try.func17, Try.ntmps17
  go_wp2_with (go_at_call 24; (refine (sint_b A A2 n n2 c c2 l m _ ((K1.out.below BB).more BB.size) ((K2.out.below BB).more BB.size) hn hn2).mono ?_); rintro _ _ ⟨rfl, B⟩; replace BB := bon BB B; clear B)
  go_ret
  exact ⟨rfl, BB⟩

set_option maxRecDepth 100000 in
set_option maxHeartbeats 2000000 in
theorem equal_walk (x y z q x2 y2 z2 q2 : Int) (A A2 : Option Addr) (n n2 c c2 : Nat) (l m : List Int) (w : World) (R1 : Rd w w.heap.size .i64 A n l) (R2 : Rd w w.heap.size .i64 A2 n2 m) (hn : n ≤ 9223372036854775807) (hn2 : n2 ≤ 9223372036854775807) :
    Calls Try.prog 4 #[.agg #[.int .i64 x, .int .i64 y, .int .i64 z, .int .i64 q, .slice A n c], .agg #[.int .i64 x2, .int .i64 y2, .int .i64 z2, .int .i64 q2, .slice A2 n2 c2]] w fun e w' => e = .returned (.bool true) ∧ Below w.heap.size w w' := by
  have K1 := Lib.hid R1
  have K2 := Lib.hid R2
  clear R1 R2
  have BB := box_below w #[.int .i64 x, .int .i64 y, .int .i64 z, .int .i64 q, .slice A n c] 29
  have X0 := EBox.made w #[.int .i64 x, .int .i64 y, .int .i64 z, .int .i64 q, .slice A n c] 29
  have hsz1 : (w.alloc (.cells #[.int .i64 x, .int .i64 y, .int .i64 z, .int .i64 q, .slice A n c] 29)).heap.size = w.heap.size + 1 := by simp
  have X1 := EBox.made (w.alloc (.cells #[.int .i64 x, .int .i64 y, .int .i64 z, .int .i64 q, .slice A n c] 29)) #[.int .i64 x2, .int .i64 y2, .int .i64 z2, .int .i64 q2, .slice A2 n2 c2] 29
  rw [hsz1] at X1
  replace X0 := X0.on (Nat.succ_pos _) (box_below (w.alloc (.cells #[.int .i64 x, .int .i64 y, .int .i64 z, .int .i64 q, .slice A n c] 29)) #[.int .i64 x2, .int .i64 y2, .int .i64 z2, .int .i64 q2, .slice A2 n2 c2] 29)
  replace BB := bon BB (box_below (w.alloc (.cells #[.int .i64 x, .int .i64 y, .int .i64 z, .int .i64 q, .slice A n c] 29)) #[.int .i64 x2, .int .i64 y2, .int .i64 z2, .int .i64 q2, .slice A2 n2 c2] 29)
  clear hsz1
  have Esx_0 := range_cut X0.1 0 5
  simp only [List.drop_succ_cons, List.drop_zero, List.take_succ_cons, List.take_zero, Nat.zero_add] at Esx_0
  have Esx_1 := range_cut X1.1 0 5
  simp only [List.drop_succ_cons, List.drop_zero, List.take_succ_cons, List.take_zero, Nat.zero_add] at Esx_1
  clear X0 X1
  have J1 := Lib.hid (fun W (B : Below w.heap.size w W) => (K1.out.below B).more B.size)
  have J2 := Lib.hid (fun W (B : Below w.heap.size w W) => (K2.out.below B).more B.size)
  have CE := Lib.hid (fun W B => pequal_b x y z q x2 y2 z2 q2 A A2 n n2 c c2 l m W (J1.out W B) (J2.out W B) hn hn2)
  have CR := Lib.hid (fun W B => requal_b x y z q x2 y2 z2 q2 A A2 n n2 c c2 l m W (J1.out W B) (J2.out W B) hn hn2)
  have CS := Lib.hid (fun W B => pequal_b x y z q x y z q A A n n c c l l W (J1.out W B) (J1.out W B) hn hn)
  rw [show eqv x y z q x y z q l l = true by simp [eqv]] at CS
  obtain ⟨v, hv⟩ : ∃ v, eqv x y z q x2 y2 z2 q2 l m = v := ⟨_, rfl⟩
  rw [hv] at CE CR
  clear hv K1 K2 J1 J2
  have BH := Lib.hid BB
  cases v
  all_goals
    go_enter Try.func4, Try.ntmps4
    go_wp2_with fail
    refine wp_region_quiet_below (by kernel_rfl) (by kernel_rfl) ?_
    repeat (first | (go_big_quiet_want; refine quiet_eload _ _ rfl rk_sx rfl (fun W hW => rangeAt_on Esx_0 (below_regrown' hW)) rfl ?_; go_simp; go_big_quiet_on) | (go_big_quiet_want; refine quiet_eload _ _ rfl rk_sx rfl (fun W hW => rangeAt_on Esx_1 (below_regrown' hW)) rfl ?_; go_simp; go_big_quiet_on) | go_big_quiet_step ((first | (go_at_call 16; with_reducible exact Calls.regrown_of (CE.out _ (bon BH.out (below_regrown _ _ _)))) | (go_at_call 17; with_reducible exact Calls.regrown_of (CR.out _ (bon BH.out (below_regrown _ _ _)))) | (go_at_call 16; with_reducible exact Calls.regrown_of (CS.out _ (bon BH.out (below_regrown _ _ _)))) | (go_at_call 15; exact Calls.regrown_of (example32_b _)))) | quiet_step ((first | (go_at_call 16; with_reducible exact Calls.regrown_of (CE.out _ (bon BH.out (below_regrown _ _ _)))) | (go_at_call 17; with_reducible exact Calls.regrown_of (CR.out _ (bon BH.out (below_regrown _ _ _)))) | (go_at_call 16; with_reducible exact Calls.regrown_of (CS.out _ (bon BH.out (below_regrown _ _ _)))) | (go_at_call 15; exact Calls.regrown_of (example32_b _)))))
    refine wpQuiet_nil ?_
    intro W hw'
    have B := below_regrown' hw'
    clear hw'
    replace BB := bon BB B
    replace Esx_0 := rangeAt_on Esx_0 B
    replace Esx_1 := rangeAt_on Esx_1 B
    go_wp2
    go_ret
    exact ⟨rfl, BB⟩

end Go.Proofs.Ytfpnbgmmgnpggaa
