/- The walk of ViewportVaryings. -/
import Derived.Test.YtfpnbgmmgnpggaaVP6
import Derived.Test.YtfpnbgmmgnpggaaGrow
namespace Go.Proofs.Ytfpnbgmmgnpggaa
set_option linter.unusedSimpArgs false
open Go.RowKit Go.Sort Go.ChangeShapes Go.WideShapes
set_option linter.unusedVariables false

theorem sint_same (A A2 : Option Addr) (n n2 c c2 : Nat) (l m : List Int) (h : m = l) (w : World) (R1 : Rd w w.heap.size .i64 A n m) (R2 : Rd w w.heap.size .i64 A2 n2 l) (hn : n ≤ 9223372036854775807) (hn2 : n2 ≤ 9223372036854775807) :
    Calls Try.prog 24 #[.slice A n c, .slice A2 n2 c2] w fun e w' => e = .returned (.bool true) ∧ Below w.heap.size w w' := by
  have := sint_b A A2 n n2 c c2 m l w R1 R2 hn hn2
  rwa [show decide (m = l) = true from decide_eq_true h] at this

theorem map_sat {l : List Int} (h : ∀ (j : Nat) (x : Int), l[j]? = some x → -536870911 ≤ x ∧ x ≤ 536870911) : l.map sat = l := by
  refine List.ext_getElem? fun j => ?_
  rw [List.getElem?_map]
  cases hj : l[j]? with
  | none => rfl
  | some x => exact congrArg some (sat_id x (h j x hj).1 (h j x hj).2)

theorem fld_sv4 (W : World) (a b c d e : Value) : (Instr.field 29 (.agg #[a, b, c, d, e]) 4).run Try.prog W = .ok e W := by kernel_rfl

set_option maxRecDepth 100000 in
set_option maxHeartbeats 2000000 in
theorem varyings_no (w : World) (x y ww hh mn mx : Int) (X Y Z V : Int) (A : Option Addr) (n c : Nat) (h : vvalid x y ww hh mn mx = false) : Calls Try.prog 10 #[.agg #[.int .i64 x, .int .i64 y, .int .i64 ww, .int .i64 hh, .int .i64 mn, .int .i64 mx], .agg #[.int .i64 X, .int .i64 Y, .int .i64 Z, .int .i64 V, .slice A n c]] w fun e w' => e = .returned (.bool true) ∧ Below w.heap.size w w' := by
  have BB := box_below w #[.int .i64 x, .int .i64 y, .int .i64 ww, .int .i64 hh, .int .i64 mn, .int .i64 mx] 23
  have X0 := EBox.made w #[.int .i64 x, .int .i64 y, .int .i64 ww, .int .i64 hh, .int .i64 mn, .int .i64 mx] 23
  have hsz1 : (w.alloc (.cells #[.int .i64 x, .int .i64 y, .int .i64 ww, .int .i64 hh, .int .i64 mn, .int .i64 mx] 23)).heap.size = w.heap.size + 1 := by simp
  have X1 := EBox.made (w.alloc (.cells #[.int .i64 x, .int .i64 y, .int .i64 ww, .int .i64 hh, .int .i64 mn, .int .i64 mx] 23)) #[.int .i64 X, .int .i64 Y, .int .i64 Z, .int .i64 V, .slice A n c] 37
  rw [hsz1] at X1
  replace X0 := X0.on (Nat.succ_pos _) (box_below (w.alloc (.cells #[.int .i64 x, .int .i64 y, .int .i64 ww, .int .i64 hh, .int .i64 mn, .int .i64 mx] 23)) #[.int .i64 X, .int .i64 Y, .int .i64 Z, .int .i64 V, .slice A n c] 37)
  replace BB := bon BB (box_below (w.alloc (.cells #[.int .i64 x, .int .i64 y, .int .i64 ww, .int .i64 hh, .int .i64 mn, .int .i64 mx] 23)) #[.int .i64 X, .int .i64 Y, .int .i64 Z, .int .i64 V, .slice A n c] 37)
  clear hsz1
  have Evp := range_cut X0.1 0 6
  simp only [List.drop_succ_cons, List.drop_zero, List.take_succ_cons, List.take_zero, Nat.zero_add] at Evp
  have p4 := X1.cell (i := 4) rfl
  have Evx := range_cut X1.1 0 5
  simp only [List.drop_succ_cons, List.drop_zero, List.take_succ_cons, List.take_zero, Nat.zero_add] at Evx
  clear X0 X1
  have CV := Lib.hid (fun W => vvalid_b x y ww hh mn mx W)
  rw [h] at CV
  clear h
  go_enter Try.func10, Try.ntmps10
  go_wp2_with (first
    | ((with_reducible refine eload6L rk_vp Evp ?_ ?_); focus rfl)
    | (first | (go_at_call 11; refine (CV.out _).mono ?_; rintro _ _ ⟨rfl, B⟩; replace BB := bon BB B; replace Evp := rangeAt_on Evp B; replace Evx := rangeAt_on Evx B; replace p4 := cell_below B p4) | (go_at_call 15; refine (example32_b _).mono ?_; rintro _ _ ⟨rfl, B⟩; replace BB := bon BB B; replace Evp := rangeAt_on Evp B; replace Evx := rangeAt_on Evx B; replace p4 := cell_below B p4)))
  go_ret
  exact ⟨rfl, BB⟩

set_option maxRecDepth 100000 in
set_option maxHeartbeats 4000000 in
theorem varyings_yes (w : World) (x y ww hh mn mx : Int) (X Y Z V : Int) (A : Option Addr) (n c : Nat) (l : List Int) (h : vvalid x y ww hh mn mx = true) (R : Rd w w.heap.size .i64 A n l) (hn : n * 8 ≤ 140737488351232) : Calls Try.prog 10 #[.agg #[.int .i64 x, .int .i64 y, .int .i64 ww, .int .i64 hh, .int .i64 mn, .int .i64 mx], .agg #[.int .i64 X, .int .i64 Y, .int .i64 Z, .int .i64 V, .slice A n c]] w fun e w' => e = .returned (.bool true) ∧ Below w.heap.size w w' := by
  have K0 := Lib.hid R
  have el := R.len
  clear R
  have BB := box_below w #[.int .i64 x, .int .i64 y, .int .i64 ww, .int .i64 hh, .int .i64 mn, .int .i64 mx] 23
  have X0 := EBox.made w #[.int .i64 x, .int .i64 y, .int .i64 ww, .int .i64 hh, .int .i64 mn, .int .i64 mx] 23
  have hsz1 : (w.alloc (.cells #[.int .i64 x, .int .i64 y, .int .i64 ww, .int .i64 hh, .int .i64 mn, .int .i64 mx] 23)).heap.size = w.heap.size + 1 := by simp
  have X1 := EBox.made (w.alloc (.cells #[.int .i64 x, .int .i64 y, .int .i64 ww, .int .i64 hh, .int .i64 mn, .int .i64 mx] 23)) #[.int .i64 X, .int .i64 Y, .int .i64 Z, .int .i64 V, .slice A n c] 37
  rw [hsz1] at X1
  replace X0 := X0.on (Nat.succ_pos _) (box_below (w.alloc (.cells #[.int .i64 x, .int .i64 y, .int .i64 ww, .int .i64 hh, .int .i64 mn, .int .i64 mx] 23)) #[.int .i64 X, .int .i64 Y, .int .i64 Z, .int .i64 V, .slice A n c] 37)
  replace BB := bon BB (box_below (w.alloc (.cells #[.int .i64 x, .int .i64 y, .int .i64 ww, .int .i64 hh, .int .i64 mn, .int .i64 mx] 23)) #[.int .i64 X, .int .i64 Y, .int .i64 Z, .int .i64 V, .slice A n c] 37)
  clear hsz1
  have Evp := range_cut X0.1 0 6
  simp only [List.drop_succ_cons, List.drop_zero, List.take_succ_cons, List.take_zero, Nat.zero_add] at Evp
  have p4 := X1.cell (i := 4) rfl
  have Evx := range_cut X1.1 0 5
  simp only [List.drop_succ_cons, List.drop_zero, List.take_succ_cons, List.take_zero, Nat.zero_add] at Evx
  clear X0 X1
  have CV := Lib.hid (fun W => vvalid_b x y ww hh mn mx W)
  rw [h] at CV
  have CT := Lib.hid (fun W (R : Rd W W.heap.size .i64 A n l) => transform_yes x y ww hh mn mx X Y Z V A n c l h W R hn)
  obtain ⟨x9, hx9⟩ : ∃ v, coord x ww X V = v := ⟨_, rfl⟩
  obtain ⟨y9, hy9⟩ : ∃ v, coord y hh (-sat Y) V = v := ⟨_, rfl⟩
  obtain ⟨z9, hz9⟩ : ∃ v, depthv mn mx Z V = v := ⟨_, rfl⟩
  obtain ⟨q9, hq9⟩ : ∃ v, ovw 65536 V = v := ⟨_, rfl⟩
  rw [hx9, hy9, hz9, hq9] at CT
  clear hx9 hy9 hz9 hq9 h
  go_enter Try.func10, Try.ntmps10
  go_wp2_with (first
    | ((with_reducible refine eload6L rk_vp Evp ?_ ?_); focus rfl)
    | (first | (go_at_call 11; refine (CV.out _).mono ?_; rintro _ _ ⟨rfl, B⟩; replace BB := bon BB B; replace Evp := rangeAt_on Evp B; replace Evx := rangeAt_on Evx B; replace p4 := cell_below B p4)))
  have BH := Lib.hid BB
  have L0 := Lib.hid Evp
  have L1 := Lib.hid Evx
  have L4 := Lib.hid p4
  clear BB Evp Evx p4 CV
  rename World => W1
  go_loopw [13] (fun i wr => ∃ k : Nat, k ≤ n ∧ i = .int .i64 k ∧ (∀ j z, j < k → l[j]? = some z → -536870911 ≤ z ∧ z ≤ 536870911) ∧ Below W1.heap.size W1 wr) (fun i _ => n - (intOf i).toNat)
  case atStart => exact ⟨0, Nat.zero_le _, rfl, fun j z hj => absurd hj (by omega), Below.refl _ _⟩
  case round =>
    obtain ⟨k, hk, rfl, hs, BB⟩ := hrel
    rename World => wr
    have Evp := rangeAt_on L0.out BB
    have Evx := rangeAt_on L1.out BB
    have p4 := cell_below BB L4.out
    by_cases hlt : k < n
    · obtain ⟨b1, o1, v, rfl, s1, v0, v1, hv⟩ := ((K0.out.below BH.out).below (BB.mono BH.out.size)).int hlt
      rcases (show v < -536870911 ∨ (-536870911 ≤ v ∧ 536870911 < v) ∨ (-536870911 ≤ v ∧ v ≤ 536870911) by omega) with r1 | ⟨r1, r2⟩ | ⟨r1, r2⟩
      iterate 2
        · clear hs hv K0 CT
          go_wp2_with (go_at_call 15; (refine (example32_b _).mono ?_); rintro _ _ ⟨rfl, B⟩; replace BB := bon BB B; clear B)
          go_ret
          exact ⟨rfl, bon BH.out BB⟩
      have HS : Hid (∀ j z, j < k + 1 → l[j]? = some z → -536870911 ≤ z ∧ z ≤ 536870911) := Lib.hid fun j z hj hz => by
        rcases Nat.lt_succ_iff_lt_or_eq.1 hj with h | rfl
        · exact hs j z h hz
        · have h := hv.out.symm.trans hz
          injection h with h
          subst h
          exact ⟨r1, r2⟩
      clear hs hv K0 CT
      go_wp2
      go_roundw
      case rel => exact ⟨k + 1, by omega, by go_num, HS.out, BB⟩
      case measure => simp [intOf]; omega
    · obtain rfl : k = n := by omega
      have HM : Hid (l.map sat = l) := Lib.hid (map_sat fun j z hz => hs j z (by have := (List.getElem?_eq_some_iff.1 hz).1; omega) hz)
      have K1 := (K0.out.below BH.out).more BH.out.size
      have K5 := K1.on BB
      have FL := fun W a b c d e => fld_sv4 W a b c d e
      clear hs K0 K1
      go_wp2_with fail
      refine wp_region_grow [0, 1, 4, 5, 2, 3, 6, 7, 8, 9, 10] (by kernel_rfl) (by kernel_rfl) ?_
      intro W B
      replace BB := bon BB B
      replace Evp := rangeAt_on Evp B
      replace Evx := rangeAt_on Evx B
      replace p4 := cell_below B p4
      replace K5 := Rd.on K5 B
      clear B
      have k_p4 := cell_regrown p4
      refine grow_read rfl rfl ?_
      (first | ((try simp only [List.getElem_toArray, List.getElem_cons_succ, List.getElem_cons_zero]); go_big_quiet_want; refine quiet_eload _ _ rfl rk_vp rfl (fun W hW => rangeAt_on Evp (below_regrown' hW)) rfl ?_; go_simp; go_big_quiet_on) | ((try simp only [List.getElem_toArray, List.getElem_cons_succ, List.getElem_cons_zero]); go_big_quiet_want; refine quiet_eload _ _ rfl rk_vx rfl (fun W hW => rangeAt_on Evx (below_regrown' hW)) rfl ?_; go_simp; go_big_quiet_on) | go_big_quiet_step (fail) | quiet_step (fail))
      refine wpQuiet_nil ?_
      refine grow_read rfl rfl ?_
      (first | ((try simp only [List.getElem_toArray, List.getElem_cons_succ, List.getElem_cons_zero]); go_big_quiet_want; refine quiet_eload _ _ rfl rk_vp rfl (fun W hW => rangeAt_on Evp (below_regrown' hW)) rfl ?_; go_simp; go_big_quiet_on) | ((try simp only [List.getElem_toArray, List.getElem_cons_succ, List.getElem_cons_zero]); go_big_quiet_want; refine quiet_eload _ _ rfl rk_vx rfl (fun W hW => rangeAt_on Evx (below_regrown' hW)) rfl ?_; go_simp; go_big_quiet_on) | go_big_quiet_step (fail) | quiet_step (fail))
      refine wpQuiet_nil ?_
      refine grow_read rfl rfl ?_
      (first | ((try simp only [List.getElem_toArray, List.getElem_cons_succ, List.getElem_cons_zero]); go_big_quiet_want; refine quiet_eload _ _ rfl rk_vp rfl (fun W hW => rangeAt_on Evp (below_regrown' hW)) rfl ?_; go_simp; go_big_quiet_on) | ((try simp only [List.getElem_toArray, List.getElem_cons_succ, List.getElem_cons_zero]); go_big_quiet_want; refine quiet_eload _ _ rfl rk_vx rfl (fun W hW => rangeAt_on Evx (below_regrown' hW)) rfl ?_; go_simp; go_big_quiet_on) | go_big_quiet_step (fail) | quiet_step (fail))
      refine wpQuiet_nil ?_
      refine grow_read rfl rfl ?_
      (first | ((try simp only [List.getElem_toArray, List.getElem_cons_succ, List.getElem_cons_zero]); go_big_quiet_want; refine quiet_eload _ _ rfl rk_vp rfl (fun W hW => rangeAt_on Evp (below_regrown' hW)) rfl ?_; go_simp; go_big_quiet_on) | ((try simp only [List.getElem_toArray, List.getElem_cons_succ, List.getElem_cons_zero]); go_big_quiet_want; refine quiet_eload _ _ rfl rk_vx rfl (fun W hW => rangeAt_on Evx (below_regrown' hW)) rfl ?_; go_simp; go_big_quiet_on) | go_big_quiet_step (fail) | quiet_step (fail))
      refine wpQuiet_nil ?_
      clear k_p4
      refine grow_call rfl rfl ?_
      go_wp2_with (go_at_call 22; refine (CT.out _ K5).mono ?_; rintro _ _ ⟨A9, c9, rfl, K9, B⟩; replace BB := bon BB B; replace Evp := rangeAt_on Evp B; replace Evx := rangeAt_on Evx B; replace p4 := cell_below B p4; replace K5 := Rd.on K5 B)
      refine ⟨Grows.of B, ?_⟩
      clear B
      have k_p4 := cell_regrown p4
      refine grow_read rfl rfl ?_
      (first | ((try simp only [List.getElem_toArray, List.getElem_cons_succ, List.getElem_cons_zero]); go_big_quiet_want; refine quiet_eload _ _ rfl rk_vp rfl (fun W hW => rangeAt_on Evp (below_regrown' hW)) rfl ?_; go_simp; go_big_quiet_on) | ((try simp only [List.getElem_toArray, List.getElem_cons_succ, List.getElem_cons_zero]); go_big_quiet_want; refine quiet_eload _ _ rfl rk_vx rfl (fun W hW => rangeAt_on Evx (below_regrown' hW)) rfl ?_; go_simp; go_big_quiet_on) | go_big_quiet_step (fail) | quiet_step (fail))
      refine wpQuiet_nil ?_
      clear k_p4
      refine grow_call rfl rfl ?_
      go_wp2_with (go_at_call 24; refine (sint_same _ _ _ _ _ _ l _ HM.out _ K9 K5 (by omega) (by omega)).mono ?_; rintro _ _ ⟨rfl, B⟩; replace BB := bon BB B; replace Evp := rangeAt_on Evp B; replace Evx := rangeAt_on Evx B; replace p4 := cell_below B p4; replace K5 := Rd.on K5 B; replace K9 := Rd.on K9 B)
      refine ⟨Grows.of B, ?_⟩
      clear B
      have k_p4 := cell_regrown p4
      refine grow_read rfl rfl ?_
      (first | ((try simp only [List.getElem_toArray, List.getElem_cons_succ, List.getElem_cons_zero]); go_big_quiet_want; refine quiet_eload _ _ rfl rk_vp rfl (fun W hW => rangeAt_on Evp (below_regrown' hW)) rfl ?_; go_simp; go_big_quiet_on) | ((try simp only [List.getElem_toArray, List.getElem_cons_succ, List.getElem_cons_zero]); go_big_quiet_want; refine quiet_eload _ _ rfl rk_vx rfl (fun W hW => rangeAt_on Evx (below_regrown' hW)) rfl ?_; go_simp; go_big_quiet_on) | go_big_quiet_step (fail) | quiet_step (fail))
      refine wpQuiet_nil ?_
      clear k_p4
      refine grow_call rfl rfl ?_
      go_wp2_with (go_at_call 15; refine (example32_b _).mono ?_; rintro _ _ ⟨rfl, B⟩; replace BB := bon BB B; replace Evp := rangeAt_on Evp B; replace Evx := rangeAt_on Evx B; replace p4 := cell_below B p4; replace K5 := Rd.on K5 B; replace K9 := Rd.on K9 B)
      refine ⟨Grows.of B, ?_⟩
      clear B
      have k_p4 := cell_regrown p4
      refine grow_read rfl rfl ?_
      (first | ((try simp only [List.getElem_toArray, List.getElem_cons_succ, List.getElem_cons_zero]); go_big_quiet_want; refine quiet_eload _ _ rfl rk_vp rfl (fun W hW => rangeAt_on Evp (below_regrown' hW)) rfl ?_; go_simp; go_big_quiet_on) | ((try simp only [List.getElem_toArray, List.getElem_cons_succ, List.getElem_cons_zero]); go_big_quiet_want; refine quiet_eload _ _ rfl rk_vx rfl (fun W hW => rangeAt_on Evx (below_regrown' hW)) rfl ?_; go_simp; go_big_quiet_on) | go_big_quiet_step (fail) | quiet_step (fail))
      refine wpQuiet_nil ?_
      refine grow_read rfl rfl ?_
      (first | ((try simp only [List.getElem_toArray, List.getElem_cons_succ, List.getElem_cons_zero]); go_big_quiet_want; refine quiet_eload _ _ rfl rk_vp rfl (fun W hW => rangeAt_on Evp (below_regrown' hW)) rfl ?_; go_simp; go_big_quiet_on) | ((try simp only [List.getElem_toArray, List.getElem_cons_succ, List.getElem_cons_zero]); go_big_quiet_want; refine quiet_eload _ _ rfl rk_vx rfl (fun W hW => rangeAt_on Evx (below_regrown' hW)) rfl ?_; go_simp; go_big_quiet_on) | go_big_quiet_step (fail) | quiet_step (fail))
      refine wpQuiet_nil ?_
      clear k_p4
      refine grow_nil ?_
      go_wp2
      go_ret
      exact ⟨rfl, bon BH.out BB⟩

theorem varyings_walk (w : World) (x y ww hh mn mx : Int) (X Y Z V : Int) (A : Option Addr) (n c : Nat) (l : List Int) (R : Rd w w.heap.size .i64 A n l) (hn : n * 8 ≤ 140737488351232) : Calls Try.prog 10 #[.agg #[.int .i64 x, .int .i64 y, .int .i64 ww, .int .i64 hh, .int .i64 mn, .int .i64 mx], .agg #[.int .i64 X, .int .i64 Y, .int .i64 Z, .int .i64 V, .slice A n c]] w fun e w' => e = .returned (.bool true) ∧ Below w.heap.size w w' := by
  cases h : vvalid x y ww hh mn mx
  · exact varyings_no w x y ww hh mn mx X Y Z V A n c h
  · exact varyings_yes w x y ww hh mn mx X Y Z V A n c l h R hn

end Go.Proofs.Ytfpnbgmmgnpggaa
