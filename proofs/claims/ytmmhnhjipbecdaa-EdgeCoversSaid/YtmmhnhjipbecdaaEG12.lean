/- What Valid, Bounds, from, Weights, Covers of the reference of stage 34 return. -/
import Derived.Test.YtmmhnhjipbecdaaEG10
namespace Go.Proofs.Ytmmhnhjipbecdaa
set_option linter.unusedSimpArgs false
open Go.RowKit Go.Sort Go.ChangeShapes Go.WideShapes
set_option linter.unusedVariables false

def offv (X Y x y : Int) : Prop := ¬ X = x ∨ ¬ Y = y

def nth3 (a b c : SV) : Nat → SV
  | 0 => a
  | 1 => b
  | _ => c

theorem off_trv {a b c : SV} (k : Nat) : offv (onv (nth3 a b c k).x) (onv (nth3 a b c k).y) (nth3 a b c k).x (nth3 a b c k).y → trv a b c = false := by
  intro h
  cases hv : trv a b c
  · rfl
  · exfalso
    obtain ⟨⟨h1, h2, h3, h4, h5, h6⟩, _⟩ := trv_in hv
    unfold offv at h
    match k, h with
    | 0, h => simp only [nth3] at h; omega
    | 1, h => simp only [nth3] at h; omega
    | k + 2, h => simp only [nth3] at h; omega

set_option maxRecDepth 100000 in
set_option maxHeartbeats 4000000 in
theorem rvalid34_b (a b c : SV) (p : Int) (f : Bool) (w : World) : Calls Try.prog 23 #[.agg #[.int .i64 a.x, .int .i64 a.y, .int .i64 a.z, .int .i64 a.q, .slice a.A a.n a.c, .int .i64 b.x, .int .i64 b.y, .int .i64 b.z, .int .i64 b.q, .slice b.A b.n b.c, .int .i64 c.x, .int .i64 c.y, .int .i64 c.z, .int .i64 c.q, .slice c.A c.n c.c, .int .i64 p, .bool f]] w fun e w' => e = .returned (.bool (trv a b c)) ∧ Below w.heap.size w w' := by
  have BB := box_below w #[.int .i64 a.x, .int .i64 a.y, .int .i64 a.z, .int .i64 a.q, .slice a.A a.n a.c, .int .i64 b.x, .int .i64 b.y, .int .i64 b.z, .int .i64 b.q, .slice b.A b.n b.c, .int .i64 c.x, .int .i64 c.y, .int .i64 c.z, .int .i64 c.q, .slice c.A c.n c.c, .int .i64 p, .bool f] 34
  have X0 := EBox.made w #[.int .i64 a.x, .int .i64 a.y, .int .i64 a.z, .int .i64 a.q, .slice a.A a.n a.c, .int .i64 b.x, .int .i64 b.y, .int .i64 b.z, .int .i64 b.q, .slice b.A b.n b.c, .int .i64 c.x, .int .i64 c.y, .int .i64 c.z, .int .i64 c.q, .slice c.A c.n c.c, .int .i64 p, .bool f] 34
  have v0x := X0.cell (i := 0) rfl
  have v0y := X0.cell (i := 1) rfl
  have v1x := X0.cell (i := 5) rfl
  have v1y := X0.cell (i := 6) rfl
  have v2x := X0.cell (i := 10) rfl
  have v2y := X0.cell (i := 11) rfl
  have Et3 := range_cut X0.1 0 15
  simp only [List.drop_succ_cons, List.drop_zero, List.take_succ_cons, List.take_zero, Nat.zero_add] at Et3
  clear X0
  have LE := Lib.hid Et3
  have L0x := Lib.hid v0x
  have L0y := Lib.hid v0y
  have L1x := Lib.hid v1x
  have L1y := Lib.hid v1y
  have L2x := Lib.hid v2x
  have L2y := Lib.hid v2y
  have LW := Lib.hid BB
  clear Et3 v0x v0y v1x v1y v2x v2y
  go_enter Try.func23, Try.ntmps23
  go_wp2_with fail
  generalize hW : w.alloc (.cells #[.int .i64 a.x, .int .i64 a.y, .int .i64 a.z, .int .i64 a.q, .slice a.A a.n a.c, .int .i64 b.x, .int .i64 b.y, .int .i64 b.z, .int .i64 b.q, .slice b.A b.n b.c, .int .i64 c.x, .int .i64 c.y, .int .i64 c.z, .int .i64 c.q, .slice c.A c.n c.c, .int .i64 p, .bool f] 34) = W1 at *
  clear hW
  go_loopw [3] (fun i wr => ∃ k : Nat, k ≤ 3 ∧ i = .int .i64 k ∧ Below W1.heap.size W1 wr) (fun i _ => 3 - (intOf i).toNat)
  case atStart => exact ⟨0, Nat.zero_le _, rfl, Below.refl _ _⟩
  case round =>
    obtain ⟨k, hk, rfl, B1⟩ := hrel
    rename World => wr
    rcases (show k = 0 ∨ k = 1 ∨ k = 2 ∨ k = 3 by omega) with rfl | rfl | rfl | rfl
    · have BX := BB
      clear BB
      have BB := B1
      have cx := cell_below B1 L0x.out
      have cy := cell_below B1 L0y.out
      have cX := fun W => rlimit_b a.x W
      have cY := fun W => rlimit_b a.y W
      have hn' := off_trv (a := a) (b := b) (c := c) 0
      obtain ⟨X, hX⟩ : ∃ X, onv a.x = X := ⟨_, rfl⟩
      obtain ⟨Y, hY⟩ : ∃ Y, onv a.y = Y := ⟨_, rfl⟩
      simp only [nth3, hX, hY, offv] at hn'
      have hn := Lib.hid hn'
      rw [hX] at cX
      rw [hY] at cY
      have CX := Lib.hid cX
      have CY := Lib.hid cY
      clear cX cY hX hY hn'
      by_cases gx : X = a.x
      · subst gx
        by_cases gy : Y = a.y
        · subst gy
          clear hn
          go_wp2_with fail
          have k_cx := cell_regrown cx
          have k_cy := cell_regrown cy
          refine wp_region_quiet_below (by kernel_rfl) (by kernel_rfl) ?_
          repeat (first | ((try simp only [List.getElem_toArray, List.getElem_cons_succ, List.getElem_cons_zero]); go_big_quiet_step ((first | (go_at_call 28; with_reducible exact Calls.regrown_of (CX.out _)) | (go_at_call 28; with_reducible exact Calls.regrown_of (CY.out _))))) | ((try simp only [List.getElem_toArray, List.getElem_cons_succ, List.getElem_cons_zero]); quiet_step ((first | (go_at_call 28; with_reducible exact Calls.regrown_of (CX.out _)) | (go_at_call 28; with_reducible exact Calls.regrown_of (CY.out _))))))
          refine wpQuiet_nil ?_
          intro W9 hw'
          have B9 := below_regrown' hw'
          clear hw' k_cx k_cy
          replace cx := cell_below (B9) cx
          replace cy := cell_below (B9) cy
          replace BB := bon BB B9
          clear B9
          go_wp2_with fail
          go_roundw
          case rel => exact ⟨1, by omega, by go_num, BB⟩
          case measure => simp [intOf]
        · have ht := Lib.hid (hn.out (.inr gy))
          have g1 : (Y == a.y) = false := by simpa using gy
          clear hn
          go_wp2_with fail
          have k_cx := cell_regrown cx
          have k_cy := cell_regrown cy
          refine wp_region_quiet_below (by kernel_rfl) (by kernel_rfl) ?_
          repeat (first | ((try simp only [List.getElem_toArray, List.getElem_cons_succ, List.getElem_cons_zero]); go_big_quiet_step ((first | (go_at_call 28; with_reducible exact Calls.regrown_of (CX.out _)) | (go_at_call 28; with_reducible exact Calls.regrown_of (CY.out _))))) | ((try simp only [List.getElem_toArray, List.getElem_cons_succ, List.getElem_cons_zero]); quiet_step ((first | (go_at_call 28; with_reducible exact Calls.regrown_of (CX.out _)) | (go_at_call 28; with_reducible exact Calls.regrown_of (CY.out _))))))
          refine wpQuiet_nil ?_
          intro W9 hw'
          have B9 := below_regrown' hw'
          clear hw' k_cx k_cy
          replace cx := cell_below (B9) cx
          replace cy := cell_below (B9) cy
          replace BB := bon BB B9
          clear B9
          go_wp2
          go_ret
          exact ⟨ret_bool (ht.out.symm), bon BX BB⟩
      · have ht := Lib.hid (hn.out (.inl gx))
        have g1 : (X == a.x) = false := by simpa using gx
        clear hn
        go_wp2_with fail
        have k_cx := cell_regrown cx
        have k_cy := cell_regrown cy
        refine wp_region_quiet_below (by kernel_rfl) (by kernel_rfl) ?_
        repeat (first | ((try simp only [List.getElem_toArray, List.getElem_cons_succ, List.getElem_cons_zero]); go_big_quiet_step ((first | (go_at_call 28; with_reducible exact Calls.regrown_of (CX.out _)) | (go_at_call 28; with_reducible exact Calls.regrown_of (CY.out _))))) | ((try simp only [List.getElem_toArray, List.getElem_cons_succ, List.getElem_cons_zero]); quiet_step ((first | (go_at_call 28; with_reducible exact Calls.regrown_of (CX.out _)) | (go_at_call 28; with_reducible exact Calls.regrown_of (CY.out _))))))
        refine wpQuiet_nil ?_
        intro W9 hw'
        have B9 := below_regrown' hw'
        clear hw' k_cx k_cy
        replace cx := cell_below (B9) cx
        replace cy := cell_below (B9) cy
        replace BB := bon BB B9
        clear B9
        go_wp2
        go_ret
        exact ⟨ret_bool (ht.out.symm), bon BX BB⟩
    · have BX := BB
      clear BB
      have BB := B1
      have cx := cell_below B1 L1x.out
      have cy := cell_below B1 L1y.out
      have cX := fun W => rlimit_b b.x W
      have cY := fun W => rlimit_b b.y W
      have hn' := off_trv (a := a) (b := b) (c := c) 1
      obtain ⟨X, hX⟩ : ∃ X, onv b.x = X := ⟨_, rfl⟩
      obtain ⟨Y, hY⟩ : ∃ Y, onv b.y = Y := ⟨_, rfl⟩
      simp only [nth3, hX, hY, offv] at hn'
      have hn := Lib.hid hn'
      rw [hX] at cX
      rw [hY] at cY
      have CX := Lib.hid cX
      have CY := Lib.hid cY
      clear cX cY hX hY hn'
      by_cases gx : X = b.x
      · subst gx
        by_cases gy : Y = b.y
        · subst gy
          clear hn
          go_wp2_with fail
          have k_cx := cell_regrown cx
          have k_cy := cell_regrown cy
          refine wp_region_quiet_below (by kernel_rfl) (by kernel_rfl) ?_
          repeat (first | ((try simp only [List.getElem_toArray, List.getElem_cons_succ, List.getElem_cons_zero]); go_big_quiet_step ((first | (go_at_call 28; with_reducible exact Calls.regrown_of (CX.out _)) | (go_at_call 28; with_reducible exact Calls.regrown_of (CY.out _))))) | ((try simp only [List.getElem_toArray, List.getElem_cons_succ, List.getElem_cons_zero]); quiet_step ((first | (go_at_call 28; with_reducible exact Calls.regrown_of (CX.out _)) | (go_at_call 28; with_reducible exact Calls.regrown_of (CY.out _))))))
          refine wpQuiet_nil ?_
          intro W9 hw'
          have B9 := below_regrown' hw'
          clear hw' k_cx k_cy
          replace cx := cell_below (B9) cx
          replace cy := cell_below (B9) cy
          replace BB := bon BB B9
          clear B9
          go_wp2_with fail
          go_roundw
          case rel => exact ⟨2, by omega, by go_num, BB⟩
          case measure => simp [intOf]
        · have ht := Lib.hid (hn.out (.inr gy))
          have g1 : (Y == b.y) = false := by simpa using gy
          clear hn
          go_wp2_with fail
          have k_cx := cell_regrown cx
          have k_cy := cell_regrown cy
          refine wp_region_quiet_below (by kernel_rfl) (by kernel_rfl) ?_
          repeat (first | ((try simp only [List.getElem_toArray, List.getElem_cons_succ, List.getElem_cons_zero]); go_big_quiet_step ((first | (go_at_call 28; with_reducible exact Calls.regrown_of (CX.out _)) | (go_at_call 28; with_reducible exact Calls.regrown_of (CY.out _))))) | ((try simp only [List.getElem_toArray, List.getElem_cons_succ, List.getElem_cons_zero]); quiet_step ((first | (go_at_call 28; with_reducible exact Calls.regrown_of (CX.out _)) | (go_at_call 28; with_reducible exact Calls.regrown_of (CY.out _))))))
          refine wpQuiet_nil ?_
          intro W9 hw'
          have B9 := below_regrown' hw'
          clear hw' k_cx k_cy
          replace cx := cell_below (B9) cx
          replace cy := cell_below (B9) cy
          replace BB := bon BB B9
          clear B9
          go_wp2
          go_ret
          exact ⟨ret_bool (ht.out.symm), bon BX BB⟩
      · have ht := Lib.hid (hn.out (.inl gx))
        have g1 : (X == b.x) = false := by simpa using gx
        clear hn
        go_wp2_with fail
        have k_cx := cell_regrown cx
        have k_cy := cell_regrown cy
        refine wp_region_quiet_below (by kernel_rfl) (by kernel_rfl) ?_
        repeat (first | ((try simp only [List.getElem_toArray, List.getElem_cons_succ, List.getElem_cons_zero]); go_big_quiet_step ((first | (go_at_call 28; with_reducible exact Calls.regrown_of (CX.out _)) | (go_at_call 28; with_reducible exact Calls.regrown_of (CY.out _))))) | ((try simp only [List.getElem_toArray, List.getElem_cons_succ, List.getElem_cons_zero]); quiet_step ((first | (go_at_call 28; with_reducible exact Calls.regrown_of (CX.out _)) | (go_at_call 28; with_reducible exact Calls.regrown_of (CY.out _))))))
        refine wpQuiet_nil ?_
        intro W9 hw'
        have B9 := below_regrown' hw'
        clear hw' k_cx k_cy
        replace cx := cell_below (B9) cx
        replace cy := cell_below (B9) cy
        replace BB := bon BB B9
        clear B9
        go_wp2
        go_ret
        exact ⟨ret_bool (ht.out.symm), bon BX BB⟩
    · have BX := BB
      clear BB
      have BB := B1
      have cx := cell_below B1 L2x.out
      have cy := cell_below B1 L2y.out
      have cX := fun W => rlimit_b c.x W
      have cY := fun W => rlimit_b c.y W
      have hn' := off_trv (a := a) (b := b) (c := c) 2
      obtain ⟨X, hX⟩ : ∃ X, onv c.x = X := ⟨_, rfl⟩
      obtain ⟨Y, hY⟩ : ∃ Y, onv c.y = Y := ⟨_, rfl⟩
      simp only [nth3, hX, hY, offv] at hn'
      have hn := Lib.hid hn'
      rw [hX] at cX
      rw [hY] at cY
      have CX := Lib.hid cX
      have CY := Lib.hid cY
      clear cX cY hX hY hn'
      by_cases gx : X = c.x
      · subst gx
        by_cases gy : Y = c.y
        · subst gy
          clear hn
          go_wp2_with fail
          have k_cx := cell_regrown cx
          have k_cy := cell_regrown cy
          refine wp_region_quiet_below (by kernel_rfl) (by kernel_rfl) ?_
          repeat (first | ((try simp only [List.getElem_toArray, List.getElem_cons_succ, List.getElem_cons_zero]); go_big_quiet_step ((first | (go_at_call 28; with_reducible exact Calls.regrown_of (CX.out _)) | (go_at_call 28; with_reducible exact Calls.regrown_of (CY.out _))))) | ((try simp only [List.getElem_toArray, List.getElem_cons_succ, List.getElem_cons_zero]); quiet_step ((first | (go_at_call 28; with_reducible exact Calls.regrown_of (CX.out _)) | (go_at_call 28; with_reducible exact Calls.regrown_of (CY.out _))))))
          refine wpQuiet_nil ?_
          intro W9 hw'
          have B9 := below_regrown' hw'
          clear hw' k_cx k_cy
          replace cx := cell_below (B9) cx
          replace cy := cell_below (B9) cy
          replace BB := bon BB B9
          clear B9
          go_wp2_with fail
          go_roundw
          case rel => exact ⟨3, by omega, by go_num, BB⟩
          case measure => simp [intOf]
        · have ht := Lib.hid (hn.out (.inr gy))
          have g1 : (Y == c.y) = false := by simpa using gy
          clear hn
          go_wp2_with fail
          have k_cx := cell_regrown cx
          have k_cy := cell_regrown cy
          refine wp_region_quiet_below (by kernel_rfl) (by kernel_rfl) ?_
          repeat (first | ((try simp only [List.getElem_toArray, List.getElem_cons_succ, List.getElem_cons_zero]); go_big_quiet_step ((first | (go_at_call 28; with_reducible exact Calls.regrown_of (CX.out _)) | (go_at_call 28; with_reducible exact Calls.regrown_of (CY.out _))))) | ((try simp only [List.getElem_toArray, List.getElem_cons_succ, List.getElem_cons_zero]); quiet_step ((first | (go_at_call 28; with_reducible exact Calls.regrown_of (CX.out _)) | (go_at_call 28; with_reducible exact Calls.regrown_of (CY.out _))))))
          refine wpQuiet_nil ?_
          intro W9 hw'
          have B9 := below_regrown' hw'
          clear hw' k_cx k_cy
          replace cx := cell_below (B9) cx
          replace cy := cell_below (B9) cy
          replace BB := bon BB B9
          clear B9
          go_wp2
          go_ret
          exact ⟨ret_bool (ht.out.symm), bon BX BB⟩
      · have ht := Lib.hid (hn.out (.inl gx))
        have g1 : (X == c.x) = false := by simpa using gx
        clear hn
        go_wp2_with fail
        have k_cx := cell_regrown cx
        have k_cy := cell_regrown cy
        refine wp_region_quiet_below (by kernel_rfl) (by kernel_rfl) ?_
        repeat (first | ((try simp only [List.getElem_toArray, List.getElem_cons_succ, List.getElem_cons_zero]); go_big_quiet_step ((first | (go_at_call 28; with_reducible exact Calls.regrown_of (CX.out _)) | (go_at_call 28; with_reducible exact Calls.regrown_of (CY.out _))))) | ((try simp only [List.getElem_toArray, List.getElem_cons_succ, List.getElem_cons_zero]); quiet_step ((first | (go_at_call 28; with_reducible exact Calls.regrown_of (CX.out _)) | (go_at_call 28; with_reducible exact Calls.regrown_of (CY.out _))))))
        refine wpQuiet_nil ?_
        intro W9 hw'
        have B9 := below_regrown' hw'
        clear hw' k_cx k_cy
        replace cx := cell_below (B9) cx
        replace cy := cell_below (B9) cy
        replace BB := bon BB B9
        clear B9
        go_wp2
        go_ret
        exact ⟨ret_bool (ht.out.symm), bon BX BB⟩
    · have Et3 := rangeAt_on LE.out B1
      replace BB := bon BB B1
      go_wp2_with (first
    | ((with_reducible refine eload15L rk_t3 Et3 ?_ ?_); (focus rfl))
    | (go_at_call 31; (with_reducible refine (rarea_b a b c _).mono ?_); rintro _ W5 ⟨rfl, B⟩; replace BB := bon BB B; skip; clear B))
      go_ret
      exact ⟨rfl, BB⟩

theorem rvalid_at (a b c : SV) (p : Int) (f : Bool) (v : Bool) (h : trv a b c = v) (w : World) : Calls Try.prog 23 #[.agg #[.int .i64 a.x, .int .i64 a.y, .int .i64 a.z, .int .i64 a.q, .slice a.A a.n a.c, .int .i64 b.x, .int .i64 b.y, .int .i64 b.z, .int .i64 b.q, .slice b.A b.n b.c, .int .i64 c.x, .int .i64 c.y, .int .i64 c.z, .int .i64 c.q, .slice c.A c.n c.c, .int .i64 p, .bool f]] w fun e w' => e = .returned (.bool v) ∧ Below w.heap.size w w' := h ▸ rvalid34_b a b c p f w

set_option maxRecDepth 100000 in
set_option maxHeartbeats 2000000 in
theorem rbounds_b (a b c : SV) (p : Int) (f : Bool) (w : World) : Calls Try.prog 21 #[.agg #[.int .i64 a.x, .int .i64 a.y, .int .i64 a.z, .int .i64 a.q, .slice a.A a.n a.c, .int .i64 b.x, .int .i64 b.y, .int .i64 b.z, .int .i64 b.q, .slice b.A b.n b.c, .int .i64 c.x, .int .i64 c.y, .int .i64 c.z, .int .i64 c.q, .slice c.A c.n c.c, .int .i64 p, .bool f]] w fun e w' => e = .returned (bds a b c) ∧ Below w.heap.size w w' := by
  unfold bds
  have mn := fun x y z ts t w => min_is3 x y z ts t w
  have mx := fun x y z ts t w => max_is3 x y z ts t w
  have BB := box_below w #[.int .i64 a.x, .int .i64 a.y, .int .i64 a.z, .int .i64 a.q, .slice a.A a.n a.c, .int .i64 b.x, .int .i64 b.y, .int .i64 b.z, .int .i64 b.q, .slice b.A b.n b.c, .int .i64 c.x, .int .i64 c.y, .int .i64 c.z, .int .i64 c.q, .slice c.A c.n c.c, .int .i64 p, .bool f] 34
  have X0 := EBox.made w #[.int .i64 a.x, .int .i64 a.y, .int .i64 a.z, .int .i64 a.q, .slice a.A a.n a.c, .int .i64 b.x, .int .i64 b.y, .int .i64 b.z, .int .i64 b.q, .slice b.A b.n b.c, .int .i64 c.x, .int .i64 c.y, .int .i64 c.z, .int .i64 c.q, .slice c.A c.n c.c, .int .i64 p, .bool f] 34
  have Etr := range_cut X0.1 0 17
  have Esv_0 := range_cut X0.1 0 5
  have Esv_1 := range_cut X0.1 5 5
  have Esv_2 := range_cut X0.1 10 5
  simp only [List.drop_succ_cons, List.drop_zero, List.take_succ_cons, List.take_zero, Nat.zero_add] at Etr Esv_0 Esv_1 Esv_2
  clear X0
  cases hv : trv a b c
  · have CV := Lib.hid (fun W => rvalid_at a b c p f false hv W)
    clear hv
    go_enter Try.func21, Try.ntmps21
    go_wp2_with (first
    | ((with_reducible refine eload17L rk_tr Etr ?_ ?_); focus rfl)
    | (go_at_call 23; (with_reducible refine (CV.out _).mono ?_); rintro _ W3 ⟨rfl, B⟩; replace BB := bon BB B; skip; clear B))
    exact bodyPost_ret (by simp [results, Try.results21, go_sem]) rfl ⟨rfl, BB⟩
  · have CV := Lib.hid (fun W => rvalid_at a b c p f true hv W)
    clear hv
    go_enter Try.func21, Try.ntmps21
    go_wp2_with (first
    | ((with_reducible refine eload17L rk_tr Etr ?_ ?_); focus rfl)
    | (go_at_call 23; (with_reducible refine (CV.out _).mono ?_); rintro _ W3 ⟨rfl, B⟩; replace BB := bon BB B; replace Esv_0 := rangeAt_on Esv_0 (B); replace Esv_1 := rangeAt_on Esv_1 (B); replace Esv_2 := rangeAt_on Esv_2 (B); clear B))
    refine wp_region_mix3 (af := ?afrb) 9 (by kernel_rfl) zero_sv zero_sv zero_sv (Nat.succ_pos _) (Nat.succ_pos _) (Nat.succ_pos _) rfl (by kernel_rfl) (by kernel_rfl) ?h1rb ?h2rb
    case h1rb =>
      intro U9 BU9
      simp only [List.take_succ_cons, List.take_zero]
      replace Esv_0 := rangeAt_on Esv_0 (BU9)
      replace Esv_1 := rangeAt_on Esv_1 (BU9)
      replace Esv_2 := rangeAt_on Esv_2 (BU9)
      repeat (first | ((try simp only [List.getElem_toArray, List.getElem_cons_succ, List.getElem_cons_zero]); go_big_quiet_want; refine quiet_eload _ _ rfl rk_sv rfl (fun W hW => rangeAt_on Esv_0 (below_regrown' hW)) rfl ?_; go_simp; go_big_quiet_on) | ((try simp only [List.getElem_toArray, List.getElem_cons_succ, List.getElem_cons_zero]); go_big_quiet_want; refine quiet_eload _ _ rfl rk_sv rfl (fun W hW => rangeAt_on Esv_1 (below_regrown' hW)) rfl ?_; go_simp; go_big_quiet_on) | ((try simp only [List.getElem_toArray, List.getElem_cons_succ, List.getElem_cons_zero]); go_big_quiet_want; refine quiet_eload _ _ rfl rk_sv rfl (fun W hW => rangeAt_on Esv_2 (below_regrown' hW)) rfl ?_; go_simp; go_big_quiet_on) | ((try simp only [List.getElem_toArray, List.getElem_cons_succ, List.getElem_cons_zero]); go_big_quiet_step (fail)) | ((try simp only [List.getElem_toArray, List.getElem_cons_succ, List.getElem_cons_zero]); quiet_step (fail)))
      refine wpQuiet_nil ?_
      rfl
    intro ba bb bc V0 hne9 lba lbb lbc BT9 Xba Xbb Xbc
    obtain ⟨hne9, hne8, hne7⟩ := hne9
    refine tree_one rfl ?_
    refine esetL (vs := [.int .i64 a.x, .int .i64 a.y, .int .i64 a.z, .int .i64 a.q, .slice a.A a.n a.c]) rk_sv rfl rfl Xba rfl rfl (by simp [Value.oneCell']) ?_
    intro V1 Yba B9 hc9 hf9
    replace BT9 := BT9.trans (B9.mono lba)
    replace Xbb := Xbb.keep (by omega) hc9 hf9
    replace Xbc := Xbc.keep (by omega) hc9 hf9
    replace Xba := Yba
    clear B9 hc9 hf9
    refine ⟨BT9, ?_⟩
    refine tree_one rfl ?_
    refine esetL (vs := [.int .i64 b.x, .int .i64 b.y, .int .i64 b.z, .int .i64 b.q, .slice b.A b.n b.c]) rk_sv rfl rfl Xbb rfl rfl (by simp [Value.oneCell']) ?_
    intro V2 Ybb B9 hc9 hf9
    replace BT9 := BT9.trans (B9.mono lbb)
    replace Xba := Xba.keep (by omega) hc9 hf9
    replace Xbc := Xbc.keep (by omega) hc9 hf9
    replace Xbb := Ybb
    clear B9 hc9 hf9
    refine ⟨BT9, ?_⟩
    refine tree_one rfl ?_
    refine esetL (vs := [.int .i64 c.x, .int .i64 c.y, .int .i64 c.z, .int .i64 c.q, .slice c.A c.n c.c]) rk_sv rfl rfl Xbc rfl rfl (by simp [Value.oneCell']) ?_
    intro V3 Ybc B9 hc9 hf9
    replace BT9 := BT9.trans (B9.mono lbc)
    replace Xba := Xba.keep (by omega) hc9 hf9
    replace Xbb := Xbb.keep (by omega) hc9 hf9
    replace Xbc := Ybc
    clear B9 hc9 hf9
    refine ⟨BT9, ?_⟩
    refine tree_nil ?_
    replace Esv_0 := rangeAt_on Esv_0 (BT9)
    replace Esv_1 := rangeAt_on Esv_1 (BT9)
    replace Esv_2 := rangeAt_on Esv_2 (BT9)
    replace BB := bon BB BT9
    clear BT9
    have a0 := Xba.cell (i := 0) rfl
    have a1 := Xba.cell (i := 1) rfl
    have b0 := Xbb.cell (i := 0) rfl
    have b1 := Xbb.cell (i := 1) rfl
    have c0 := Xbc.cell (i := 0) rfl
    have c1 := Xbc.cell (i := 1) rfl
    clear Xba Xbb Xbc Esv_0 Esv_1 Esv_2
    go_wp2_with fail
    go_simp
    refine wp_region_mix0 (af := ?afrc) 28 (by kernel_rfl) (by kernel_rfl) (by kernel_rfl) ?h1rc ?h2rc
    case h1rc =>
      intro U9 BU9
      simp only [List.take_succ_cons, List.take_zero]
      replace a0 := cell_below (BU9) a0
      replace a1 := cell_below (BU9) a1
      replace b0 := cell_below (BU9) b0
      replace b1 := cell_below (BU9) b1
      replace c0 := cell_below (BU9) c0
      replace c1 := cell_below (BU9) c1
      have k_a0 := cell_regrown a0
      have k_a1 := cell_regrown a1
      have k_b0 := cell_regrown b0
      have k_b1 := cell_regrown b1
      have k_c0 := cell_regrown c0
      have k_c1 := cell_regrown c1
      repeat (first | ((try simp only [List.getElem_toArray, List.getElem_cons_succ, List.getElem_cons_zero]); go_big_quiet_step (fail)) | ((try simp only [List.getElem_toArray, List.getElem_cons_succ, List.getElem_cons_zero]); quiet_step (fail)))
      refine wpQuiet_nil ?_
      rfl
    intro  V0  BT9 
    refine tree_one rfl ?_
    refine wpList_assignL ?_
    refine ⟨BT9, ?_⟩
    refine tree_one rfl ?_
    refine wpList_assignL ?_
    refine ⟨BT9, ?_⟩
    refine tree_one rfl ?_
    refine wpList_assignL ?_
    refine ⟨BT9, ?_⟩
    refine tree_one rfl ?_
    refine wpList_assignL ?_
    refine ⟨BT9, ?_⟩
    refine tree_nil ?_
    replace a0 := cell_below (BT9) a0
    replace a1 := cell_below (BT9) a1
    replace b0 := cell_below (BT9) b0
    replace b1 := cell_below (BT9) b1
    replace c0 := cell_below (BT9) c0
    replace c1 := cell_below (BT9) c1
    replace BB := bon BB BT9
    clear BT9
    go_simp
    go_wp2
    exact bodyPost_ret (by simp [results, Try.results21, go_sem]) rfl ⟨rfl, BB⟩

theorem rbounds_at (a b c : SV) (p : Int) (f : Bool) (v : Value) (h : bds a b c = v) (w : World) : Calls Try.prog 21 #[.agg #[.int .i64 a.x, .int .i64 a.y, .int .i64 a.z, .int .i64 a.q, .slice a.A a.n a.c, .int .i64 b.x, .int .i64 b.y, .int .i64 b.z, .int .i64 b.q, .slice b.A b.n b.c, .int .i64 c.x, .int .i64 c.y, .int .i64 c.z, .int .i64 c.q, .slice c.A c.n c.c, .int .i64 p, .bool f]] w fun e w' => e = .returned v ∧ Below w.heap.size w w' := h ▸ rbounds_b a b c p f w

set_option maxRecDepth 100000 in
set_option maxHeartbeats 2000000 in
theorem from_0 (a b c : SV) (p : Int) (f : Bool) (px py : Int) (w : World) : Calls Try.prog 29 #[.agg #[.int .i64 a.x, .int .i64 a.y, .int .i64 a.z, .int .i64 a.q, .slice a.A a.n a.c, .int .i64 b.x, .int .i64 b.y, .int .i64 b.z, .int .i64 b.q, .slice b.A b.n b.c, .int .i64 c.x, .int .i64 c.y, .int .i64 c.z, .int .i64 c.q, .slice c.A c.n c.c, .int .i64 p, .bool f], .int .i64 0, .int .i64 px, .int .i64 py] w fun e w' => e = .returned (.int .i64 (efn a.x a.y b.x b.y px py)) ∧ Below w.heap.size w w' := by
  have BB := box_below w #[.int .i64 a.x, .int .i64 a.y, .int .i64 a.z, .int .i64 a.q, .slice a.A a.n a.c, .int .i64 b.x, .int .i64 b.y, .int .i64 b.z, .int .i64 b.q, .slice b.A b.n b.c, .int .i64 c.x, .int .i64 c.y, .int .i64 c.z, .int .i64 c.q, .slice c.A c.n c.c, .int .i64 p, .bool f] 34
  have X0 := EBox.made w #[.int .i64 a.x, .int .i64 a.y, .int .i64 a.z, .int .i64 a.q, .slice a.A a.n a.c, .int .i64 b.x, .int .i64 b.y, .int .i64 b.z, .int .i64 b.q, .slice b.A b.n b.c, .int .i64 c.x, .int .i64 c.y, .int .i64 c.z, .int .i64 c.q, .slice c.A c.n c.c, .int .i64 p, .bool f] 34
  have Esv_0 := range_cut X0.1 0 5
  have Esv_1 := range_cut X0.1 5 5
  have Esv_2 := range_cut X0.1 10 5
  simp only [List.drop_succ_cons, List.drop_zero, List.take_succ_cons, List.take_zero, Nat.zero_add] at Esv_0 Esv_1 Esv_2
  clear X0
  have iw1 : IntKind.i64.wrap 1 = 1 := rfl
  have iw2 : IntKind.i64.wrap 2 = 2 := rfl
  have iw3 : IntKind.i64.wrap 3 = 3 := rfl
  have it1 : (1 : Int).tmod 3 = 1 := rfl
  have it2 : (2 : Int).tmod 3 = 2 := rfl
  have it3 : (3 : Int).tmod 3 = 0 := rfl
  have CF := Lib.hid (fun W => refn_b a.x a.y b.x b.y px py W)
  go_enter Try.func29, Try.ntmps29
  go_wp2_with fail
  refine wp_region_mix2 (af := ?aff0) 10 (by kernel_rfl) zero_sv zero_sv (Nat.succ_pos _) (Nat.succ_pos _) rfl (by kernel_rfl) (by kernel_rfl) ?h1f0 ?h2f0
  case h1f0 =>
    intro U9 BU9
    simp only [List.take_succ_cons, List.take_zero]
    replace Esv_0 := rangeAt_on Esv_0 (BU9)
    replace Esv_1 := rangeAt_on Esv_1 (BU9)
    replace Esv_2 := rangeAt_on Esv_2 (BU9)
    repeat (first | ((try simp only [List.getElem_toArray, List.getElem_cons_succ, List.getElem_cons_zero]); go_big_quiet_want; refine quiet_eload _ _ rfl rk_sv rfl (fun W hW => rangeAt_on Esv_0 (below_regrown' hW)) rfl ?_; go_simp; go_big_quiet_on) | ((try simp only [List.getElem_toArray, List.getElem_cons_succ, List.getElem_cons_zero]); go_big_quiet_want; refine quiet_eload _ _ rfl rk_sv rfl (fun W hW => rangeAt_on Esv_1 (below_regrown' hW)) rfl ?_; go_simp; go_big_quiet_on) | ((try simp only [List.getElem_toArray, List.getElem_cons_succ, List.getElem_cons_zero]); go_big_quiet_want; refine quiet_eload _ _ rfl rk_sv rfl (fun W hW => rangeAt_on Esv_2 (below_regrown' hW)) rfl ?_; go_simp; go_big_quiet_on) | ((try simp only [List.getElem_toArray, List.getElem_cons_succ, List.getElem_cons_zero]); go_big_quiet_step (fail)) | ((try simp only [List.getElem_toArray, List.getElem_cons_succ, List.getElem_cons_zero]); quiet_step (fail)))
    refine wpQuiet_nil ?_
    rfl
  intro ba bb V0 hne9 lba lbb BT9 Xba Xbb
  refine tree_one rfl ?_
  refine esetL (vs := [.int .i64 a.x, .int .i64 a.y, .int .i64 a.z, .int .i64 a.q, .slice a.A a.n a.c]) rk_sv rfl rfl Xba rfl rfl (by simp [Value.oneCell']) ?_
  intro V1 Yba B9 hc9 hf9
  replace BT9 := BT9.trans (B9.mono lba)
  replace Xbb := Xbb.keep (by omega) hc9 hf9
  replace Xba := Yba
  clear B9 hc9 hf9
  refine ⟨BT9, ?_⟩
  refine tree_one rfl ?_
  refine esetL (vs := [.int .i64 b.x, .int .i64 b.y, .int .i64 b.z, .int .i64 b.q, .slice b.A b.n b.c]) rk_sv rfl rfl Xbb rfl rfl (by simp [Value.oneCell']) ?_
  intro V2 Ybb B9 hc9 hf9
  replace BT9 := BT9.trans (B9.mono lbb)
  replace Xba := Xba.keep (by omega) hc9 hf9
  replace Xbb := Ybb
  clear B9 hc9 hf9
  refine ⟨BT9, ?_⟩
  refine tree_nil ?_
  replace Esv_0 := rangeAt_on Esv_0 (BT9)
  replace Esv_1 := rangeAt_on Esv_1 (BT9)
  replace Esv_2 := rangeAt_on Esv_2 (BT9)
  replace BB := bon BB BT9
  clear BT9
  have a0 := Xba.cell (i := 0) rfl
  have a1 := Xba.cell (i := 1) rfl
  have b0 := Xbb.cell (i := 0) rfl
  have b1 := Xbb.cell (i := 1) rfl
  clear Xba Xbb Esv_0 Esv_1 Esv_2
  go_wp2_with (go_at_call 15; (with_reducible refine (CF.out _).mono ?_); rintro _ W5 ⟨rfl, B⟩; replace BB := bon BB B; skip; clear B)
  go_ret
  exact ⟨rfl, BB⟩

set_option maxRecDepth 100000 in
set_option maxHeartbeats 2000000 in
theorem from_1 (a b c : SV) (p : Int) (f : Bool) (px py : Int) (w : World) : Calls Try.prog 29 #[.agg #[.int .i64 a.x, .int .i64 a.y, .int .i64 a.z, .int .i64 a.q, .slice a.A a.n a.c, .int .i64 b.x, .int .i64 b.y, .int .i64 b.z, .int .i64 b.q, .slice b.A b.n b.c, .int .i64 c.x, .int .i64 c.y, .int .i64 c.z, .int .i64 c.q, .slice c.A c.n c.c, .int .i64 p, .bool f], .int .i64 1, .int .i64 px, .int .i64 py] w fun e w' => e = .returned (.int .i64 (efn b.x b.y c.x c.y px py)) ∧ Below w.heap.size w w' := by
  have BB := box_below w #[.int .i64 a.x, .int .i64 a.y, .int .i64 a.z, .int .i64 a.q, .slice a.A a.n a.c, .int .i64 b.x, .int .i64 b.y, .int .i64 b.z, .int .i64 b.q, .slice b.A b.n b.c, .int .i64 c.x, .int .i64 c.y, .int .i64 c.z, .int .i64 c.q, .slice c.A c.n c.c, .int .i64 p, .bool f] 34
  have X0 := EBox.made w #[.int .i64 a.x, .int .i64 a.y, .int .i64 a.z, .int .i64 a.q, .slice a.A a.n a.c, .int .i64 b.x, .int .i64 b.y, .int .i64 b.z, .int .i64 b.q, .slice b.A b.n b.c, .int .i64 c.x, .int .i64 c.y, .int .i64 c.z, .int .i64 c.q, .slice c.A c.n c.c, .int .i64 p, .bool f] 34
  have Esv_0 := range_cut X0.1 0 5
  have Esv_1 := range_cut X0.1 5 5
  have Esv_2 := range_cut X0.1 10 5
  simp only [List.drop_succ_cons, List.drop_zero, List.take_succ_cons, List.take_zero, Nat.zero_add] at Esv_0 Esv_1 Esv_2
  clear X0
  have iw1 : IntKind.i64.wrap 1 = 1 := rfl
  have iw2 : IntKind.i64.wrap 2 = 2 := rfl
  have iw3 : IntKind.i64.wrap 3 = 3 := rfl
  have it1 : (1 : Int).tmod 3 = 1 := rfl
  have it2 : (2 : Int).tmod 3 = 2 := rfl
  have it3 : (3 : Int).tmod 3 = 0 := rfl
  have CF := Lib.hid (fun W => refn_b b.x b.y c.x c.y px py W)
  go_enter Try.func29, Try.ntmps29
  go_wp2_with fail
  refine wp_region_mix2 (af := ?aff1) 10 (by kernel_rfl) zero_sv zero_sv (Nat.succ_pos _) (Nat.succ_pos _) rfl (by kernel_rfl) (by kernel_rfl) ?h1f1 ?h2f1
  case h1f1 =>
    intro U9 BU9
    simp only [List.take_succ_cons, List.take_zero]
    replace Esv_0 := rangeAt_on Esv_0 (BU9)
    replace Esv_1 := rangeAt_on Esv_1 (BU9)
    replace Esv_2 := rangeAt_on Esv_2 (BU9)
    repeat (first | ((try simp only [List.getElem_toArray, List.getElem_cons_succ, List.getElem_cons_zero]); go_big_quiet_want; refine quiet_eload _ _ rfl rk_sv rfl (fun W hW => rangeAt_on Esv_0 (below_regrown' hW)) rfl ?_; go_simp; go_big_quiet_on) | ((try simp only [List.getElem_toArray, List.getElem_cons_succ, List.getElem_cons_zero]); go_big_quiet_want; refine quiet_eload _ _ rfl rk_sv rfl (fun W hW => rangeAt_on Esv_1 (below_regrown' hW)) rfl ?_; go_simp; go_big_quiet_on) | ((try simp only [List.getElem_toArray, List.getElem_cons_succ, List.getElem_cons_zero]); go_big_quiet_want; refine quiet_eload _ _ rfl rk_sv rfl (fun W hW => rangeAt_on Esv_2 (below_regrown' hW)) rfl ?_; go_simp; go_big_quiet_on) | ((try simp only [List.getElem_toArray, List.getElem_cons_succ, List.getElem_cons_zero]); go_big_quiet_step (fail)) | ((try simp only [List.getElem_toArray, List.getElem_cons_succ, List.getElem_cons_zero]); quiet_step (fail)))
    refine wpQuiet_nil ?_
    rfl
  intro ba bb V0 hne9 lba lbb BT9 Xba Xbb
  refine tree_one rfl ?_
  refine esetL (vs := [.int .i64 b.x, .int .i64 b.y, .int .i64 b.z, .int .i64 b.q, .slice b.A b.n b.c]) rk_sv rfl rfl Xba rfl rfl (by simp [Value.oneCell']) ?_
  intro V1 Yba B9 hc9 hf9
  replace BT9 := BT9.trans (B9.mono lba)
  replace Xbb := Xbb.keep (by omega) hc9 hf9
  replace Xba := Yba
  clear B9 hc9 hf9
  refine ⟨BT9, ?_⟩
  refine tree_one rfl ?_
  refine esetL (vs := [.int .i64 c.x, .int .i64 c.y, .int .i64 c.z, .int .i64 c.q, .slice c.A c.n c.c]) rk_sv rfl rfl Xbb rfl rfl (by simp [Value.oneCell']) ?_
  intro V2 Ybb B9 hc9 hf9
  replace BT9 := BT9.trans (B9.mono lbb)
  replace Xba := Xba.keep (by omega) hc9 hf9
  replace Xbb := Ybb
  clear B9 hc9 hf9
  refine ⟨BT9, ?_⟩
  refine tree_nil ?_
  replace Esv_0 := rangeAt_on Esv_0 (BT9)
  replace Esv_1 := rangeAt_on Esv_1 (BT9)
  replace Esv_2 := rangeAt_on Esv_2 (BT9)
  replace BB := bon BB BT9
  clear BT9
  have a0 := Xba.cell (i := 0) rfl
  have a1 := Xba.cell (i := 1) rfl
  have b0 := Xbb.cell (i := 0) rfl
  have b1 := Xbb.cell (i := 1) rfl
  clear Xba Xbb Esv_0 Esv_1 Esv_2
  go_wp2_with (go_at_call 15; (with_reducible refine (CF.out _).mono ?_); rintro _ W5 ⟨rfl, B⟩; replace BB := bon BB B; skip; clear B)
  go_ret
  exact ⟨rfl, BB⟩

set_option maxRecDepth 100000 in
set_option maxHeartbeats 2000000 in
theorem from_2 (a b c : SV) (p : Int) (f : Bool) (px py : Int) (w : World) : Calls Try.prog 29 #[.agg #[.int .i64 a.x, .int .i64 a.y, .int .i64 a.z, .int .i64 a.q, .slice a.A a.n a.c, .int .i64 b.x, .int .i64 b.y, .int .i64 b.z, .int .i64 b.q, .slice b.A b.n b.c, .int .i64 c.x, .int .i64 c.y, .int .i64 c.z, .int .i64 c.q, .slice c.A c.n c.c, .int .i64 p, .bool f], .int .i64 2, .int .i64 px, .int .i64 py] w fun e w' => e = .returned (.int .i64 (efn c.x c.y a.x a.y px py)) ∧ Below w.heap.size w w' := by
  have BB := box_below w #[.int .i64 a.x, .int .i64 a.y, .int .i64 a.z, .int .i64 a.q, .slice a.A a.n a.c, .int .i64 b.x, .int .i64 b.y, .int .i64 b.z, .int .i64 b.q, .slice b.A b.n b.c, .int .i64 c.x, .int .i64 c.y, .int .i64 c.z, .int .i64 c.q, .slice c.A c.n c.c, .int .i64 p, .bool f] 34
  have X0 := EBox.made w #[.int .i64 a.x, .int .i64 a.y, .int .i64 a.z, .int .i64 a.q, .slice a.A a.n a.c, .int .i64 b.x, .int .i64 b.y, .int .i64 b.z, .int .i64 b.q, .slice b.A b.n b.c, .int .i64 c.x, .int .i64 c.y, .int .i64 c.z, .int .i64 c.q, .slice c.A c.n c.c, .int .i64 p, .bool f] 34
  have Esv_0 := range_cut X0.1 0 5
  have Esv_1 := range_cut X0.1 5 5
  have Esv_2 := range_cut X0.1 10 5
  simp only [List.drop_succ_cons, List.drop_zero, List.take_succ_cons, List.take_zero, Nat.zero_add] at Esv_0 Esv_1 Esv_2
  clear X0
  have iw1 : IntKind.i64.wrap 1 = 1 := rfl
  have iw2 : IntKind.i64.wrap 2 = 2 := rfl
  have iw3 : IntKind.i64.wrap 3 = 3 := rfl
  have it1 : (1 : Int).tmod 3 = 1 := rfl
  have it2 : (2 : Int).tmod 3 = 2 := rfl
  have it3 : (3 : Int).tmod 3 = 0 := rfl
  have CF := Lib.hid (fun W => refn_b c.x c.y a.x a.y px py W)
  go_enter Try.func29, Try.ntmps29
  go_wp2_with fail
  refine wp_region_mix2 (af := ?aff2) 10 (by kernel_rfl) zero_sv zero_sv (Nat.succ_pos _) (Nat.succ_pos _) rfl (by kernel_rfl) (by kernel_rfl) ?h1f2 ?h2f2
  case h1f2 =>
    intro U9 BU9
    simp only [List.take_succ_cons, List.take_zero]
    replace Esv_0 := rangeAt_on Esv_0 (BU9)
    replace Esv_1 := rangeAt_on Esv_1 (BU9)
    replace Esv_2 := rangeAt_on Esv_2 (BU9)
    repeat (first | ((try simp only [List.getElem_toArray, List.getElem_cons_succ, List.getElem_cons_zero]); go_big_quiet_want; refine quiet_eload _ _ rfl rk_sv rfl (fun W hW => rangeAt_on Esv_0 (below_regrown' hW)) rfl ?_; go_simp; go_big_quiet_on) | ((try simp only [List.getElem_toArray, List.getElem_cons_succ, List.getElem_cons_zero]); go_big_quiet_want; refine quiet_eload _ _ rfl rk_sv rfl (fun W hW => rangeAt_on Esv_1 (below_regrown' hW)) rfl ?_; go_simp; go_big_quiet_on) | ((try simp only [List.getElem_toArray, List.getElem_cons_succ, List.getElem_cons_zero]); go_big_quiet_want; refine quiet_eload _ _ rfl rk_sv rfl (fun W hW => rangeAt_on Esv_2 (below_regrown' hW)) rfl ?_; go_simp; go_big_quiet_on) | ((try simp only [List.getElem_toArray, List.getElem_cons_succ, List.getElem_cons_zero]); go_big_quiet_step (fail)) | ((try simp only [List.getElem_toArray, List.getElem_cons_succ, List.getElem_cons_zero]); quiet_step (fail)))
    refine wpQuiet_nil ?_
    rfl
  intro ba bb V0 hne9 lba lbb BT9 Xba Xbb
  refine tree_one rfl ?_
  refine esetL (vs := [.int .i64 c.x, .int .i64 c.y, .int .i64 c.z, .int .i64 c.q, .slice c.A c.n c.c]) rk_sv rfl rfl Xba rfl rfl (by simp [Value.oneCell']) ?_
  intro V1 Yba B9 hc9 hf9
  replace BT9 := BT9.trans (B9.mono lba)
  replace Xbb := Xbb.keep (by omega) hc9 hf9
  replace Xba := Yba
  clear B9 hc9 hf9
  refine ⟨BT9, ?_⟩
  refine tree_one rfl ?_
  refine esetL (vs := [.int .i64 a.x, .int .i64 a.y, .int .i64 a.z, .int .i64 a.q, .slice a.A a.n a.c]) rk_sv rfl rfl Xbb rfl rfl (by simp [Value.oneCell']) ?_
  intro V2 Ybb B9 hc9 hf9
  replace BT9 := BT9.trans (B9.mono lbb)
  replace Xba := Xba.keep (by omega) hc9 hf9
  replace Xbb := Ybb
  clear B9 hc9 hf9
  refine ⟨BT9, ?_⟩
  refine tree_nil ?_
  replace Esv_0 := rangeAt_on Esv_0 (BT9)
  replace Esv_1 := rangeAt_on Esv_1 (BT9)
  replace Esv_2 := rangeAt_on Esv_2 (BT9)
  replace BB := bon BB BT9
  clear BT9
  have a0 := Xba.cell (i := 0) rfl
  have a1 := Xba.cell (i := 1) rfl
  have b0 := Xbb.cell (i := 0) rfl
  have b1 := Xbb.cell (i := 1) rfl
  clear Xba Xbb Esv_0 Esv_1 Esv_2
  go_wp2_with (go_at_call 15; (with_reducible refine (CF.out _).mono ?_); rintro _ W5 ⟨rfl, B⟩; replace BB := bon BB B; skip; clear B)
  go_ret
  exact ⟨rfl, BB⟩

set_option maxRecDepth 100000 in
set_option maxHeartbeats 2000000 in
theorem rwts_no (a b c : SV) (p : Int) (f : Bool) (px py : Int) (h : trv a b c = false) (w : World) : Calls Try.prog 19 #[.agg #[.int .i64 a.x, .int .i64 a.y, .int .i64 a.z, .int .i64 a.q, .slice a.A a.n a.c, .int .i64 b.x, .int .i64 b.y, .int .i64 b.z, .int .i64 b.q, .slice b.A b.n b.c, .int .i64 c.x, .int .i64 c.y, .int .i64 c.z, .int .i64 c.q, .slice c.A c.n c.c, .int .i64 p, .bool f], .int .i64 px, .int .i64 py] w fun e w' => e = .returned (wres (0, 0, 0)) ∧ Below w.heap.size w w' := by
  have BB := box_below w #[.int .i64 a.x, .int .i64 a.y, .int .i64 a.z, .int .i64 a.q, .slice a.A a.n a.c, .int .i64 b.x, .int .i64 b.y, .int .i64 b.z, .int .i64 b.q, .slice b.A b.n b.c, .int .i64 c.x, .int .i64 c.y, .int .i64 c.z, .int .i64 c.q, .slice c.A c.n c.c, .int .i64 p, .bool f] 34
  have X0 := EBox.made w #[.int .i64 a.x, .int .i64 a.y, .int .i64 a.z, .int .i64 a.q, .slice a.A a.n a.c, .int .i64 b.x, .int .i64 b.y, .int .i64 b.z, .int .i64 b.q, .slice b.A b.n b.c, .int .i64 c.x, .int .i64 c.y, .int .i64 c.z, .int .i64 c.q, .slice c.A c.n c.c, .int .i64 p, .bool f] 34
  have hsz1 : (w.alloc (.cells #[.int .i64 a.x, .int .i64 a.y, .int .i64 a.z, .int .i64 a.q, .slice a.A a.n a.c, .int .i64 b.x, .int .i64 b.y, .int .i64 b.z, .int .i64 b.q, .slice b.A b.n b.c, .int .i64 c.x, .int .i64 c.y, .int .i64 c.z, .int .i64 c.q, .slice c.A c.n c.c, .int .i64 p, .bool f] 34)).heap.size = w.heap.size + 1 := by simp
  have X1 := EBox.made (w.alloc (.cells #[.int .i64 a.x, .int .i64 a.y, .int .i64 a.z, .int .i64 a.q, .slice a.A a.n a.c, .int .i64 b.x, .int .i64 b.y, .int .i64 b.z, .int .i64 b.q, .slice b.A b.n b.c, .int .i64 c.x, .int .i64 c.y, .int .i64 c.z, .int .i64 c.q, .slice c.A c.n c.c, .int .i64 p, .bool f] 34)) #[.int .i64 0, .int .i64 0, .int .i64 0] 35
  rw [hsz1] at X1
  replace X0 := X0.on (Nat.succ_pos _) (box_below (w.alloc (.cells #[.int .i64 a.x, .int .i64 a.y, .int .i64 a.z, .int .i64 a.q, .slice a.A a.n a.c, .int .i64 b.x, .int .i64 b.y, .int .i64 b.z, .int .i64 b.q, .slice b.A b.n b.c, .int .i64 c.x, .int .i64 c.y, .int .i64 c.z, .int .i64 c.q, .slice c.A c.n c.c, .int .i64 p, .bool f] 34)) #[.int .i64 0, .int .i64 0, .int .i64 0] 35)
  replace BB := bon BB (box_below (w.alloc (.cells #[.int .i64 a.x, .int .i64 a.y, .int .i64 a.z, .int .i64 a.q, .slice a.A a.n a.c, .int .i64 b.x, .int .i64 b.y, .int .i64 b.z, .int .i64 b.q, .slice b.A b.n b.c, .int .i64 c.x, .int .i64 c.y, .int .i64 c.z, .int .i64 c.q, .slice c.A c.n c.c, .int .i64 p, .bool f] 34)) #[.int .i64 0, .int .i64 0, .int .i64 0] 35)
  clear hsz1
  have Etr := range_cut X0.1 0 17
  simp only [List.drop_succ_cons, List.drop_zero, List.take_succ_cons, List.take_zero, Nat.zero_add] at Etr
  clear X0
  have XR := X1
  clear X1
  have CV := Lib.hid (fun W => rvalid_at a b c p f false h W)
  clear h
  go_enter Try.func19, Try.ntmps19
  go_wp2_with (first
    | ((with_reducible refine eload17L rk_tr Etr ?_ ?_); (focus rfl))
    | (go_at_call 23; (with_reducible refine (CV.out _).mono ?_); rintro _ W1 ⟨rfl, B⟩; replace BB := bon BB B; replace XR := XR.on (Nat.succ_pos _) (B); clear B)
    | (refine esetL (vs := [.int .i64 0, .int .i64 0, .int .i64 0]) rk_a3 rfl rfl XR rfl rfl (by simp [Value.oneCell']) ?_; intro V1 YR B9 hc9 hf9; replace BB := BB.trans (B9.mono (Nat.le_succ _)); clear B9 hc9 hf9 XR; have r0 := YR.cell (i := 0) rfl; have r1 := YR.cell (i := 1) rfl; have r2 := YR.cell (i := 2) rfl; clear YR))
  exact bodyPost_ret (v := wres (0, 0, 0)) (by simp [wres, results, Try.results19, go_sem, r0, r1, r2]) rfl ⟨rfl, BB⟩

set_option maxRecDepth 100000 in
set_option maxHeartbeats 4000000 in
theorem rwts_yes (a b c : SV) (p : Int) (f : Bool) (px py x0 x1 x2 : Int) (h : trv a b c = true) (h0 : efn b.x b.y c.x c.y px py = x0) (h1 : efn c.x c.y a.x a.y px py = x1) (h2 : efn a.x a.y b.x b.y px py = x2) (w : World) : Calls Try.prog 19 #[.agg #[.int .i64 a.x, .int .i64 a.y, .int .i64 a.z, .int .i64 a.q, .slice a.A a.n a.c, .int .i64 b.x, .int .i64 b.y, .int .i64 b.z, .int .i64 b.q, .slice b.A b.n b.c, .int .i64 c.x, .int .i64 c.y, .int .i64 c.z, .int .i64 c.q, .slice c.A c.n c.c, .int .i64 p, .bool f], .int .i64 px, .int .i64 py] w fun e w' => e = .returned (wres (x0, x1, x2)) ∧ Below w.heap.size w w' := by
  have BB := box_below w #[.int .i64 a.x, .int .i64 a.y, .int .i64 a.z, .int .i64 a.q, .slice a.A a.n a.c, .int .i64 b.x, .int .i64 b.y, .int .i64 b.z, .int .i64 b.q, .slice b.A b.n b.c, .int .i64 c.x, .int .i64 c.y, .int .i64 c.z, .int .i64 c.q, .slice c.A c.n c.c, .int .i64 p, .bool f] 34
  have X0 := EBox.made w #[.int .i64 a.x, .int .i64 a.y, .int .i64 a.z, .int .i64 a.q, .slice a.A a.n a.c, .int .i64 b.x, .int .i64 b.y, .int .i64 b.z, .int .i64 b.q, .slice b.A b.n b.c, .int .i64 c.x, .int .i64 c.y, .int .i64 c.z, .int .i64 c.q, .slice c.A c.n c.c, .int .i64 p, .bool f] 34
  have hsz1 : (w.alloc (.cells #[.int .i64 a.x, .int .i64 a.y, .int .i64 a.z, .int .i64 a.q, .slice a.A a.n a.c, .int .i64 b.x, .int .i64 b.y, .int .i64 b.z, .int .i64 b.q, .slice b.A b.n b.c, .int .i64 c.x, .int .i64 c.y, .int .i64 c.z, .int .i64 c.q, .slice c.A c.n c.c, .int .i64 p, .bool f] 34)).heap.size = w.heap.size + 1 := by simp
  have X1 := EBox.made (w.alloc (.cells #[.int .i64 a.x, .int .i64 a.y, .int .i64 a.z, .int .i64 a.q, .slice a.A a.n a.c, .int .i64 b.x, .int .i64 b.y, .int .i64 b.z, .int .i64 b.q, .slice b.A b.n b.c, .int .i64 c.x, .int .i64 c.y, .int .i64 c.z, .int .i64 c.q, .slice c.A c.n c.c, .int .i64 p, .bool f] 34)) #[.int .i64 0, .int .i64 0, .int .i64 0] 35
  rw [hsz1] at X1
  replace X0 := X0.on (Nat.succ_pos _) (box_below (w.alloc (.cells #[.int .i64 a.x, .int .i64 a.y, .int .i64 a.z, .int .i64 a.q, .slice a.A a.n a.c, .int .i64 b.x, .int .i64 b.y, .int .i64 b.z, .int .i64 b.q, .slice b.A b.n b.c, .int .i64 c.x, .int .i64 c.y, .int .i64 c.z, .int .i64 c.q, .slice c.A c.n c.c, .int .i64 p, .bool f] 34)) #[.int .i64 0, .int .i64 0, .int .i64 0] 35)
  replace BB := bon BB (box_below (w.alloc (.cells #[.int .i64 a.x, .int .i64 a.y, .int .i64 a.z, .int .i64 a.q, .slice a.A a.n a.c, .int .i64 b.x, .int .i64 b.y, .int .i64 b.z, .int .i64 b.q, .slice b.A b.n b.c, .int .i64 c.x, .int .i64 c.y, .int .i64 c.z, .int .i64 c.q, .slice c.A c.n c.c, .int .i64 p, .bool f] 34)) #[.int .i64 0, .int .i64 0, .int .i64 0] 35)
  clear hsz1
  have Etr := range_cut X0.1 0 17
  simp only [List.drop_succ_cons, List.drop_zero, List.take_succ_cons, List.take_zero, Nat.zero_add] at Etr
  clear X0
  have XR := X1
  clear X1
  have CV := Lib.hid (fun W => rvalid_at a b c p f true h W)
  have c0 := fun W => from_1 a b c p f px py W
  have c1 := fun W => from_2 a b c p f px py W
  have c2 := fun W => from_0 a b c p f px py W
  obtain ⟨q0, q0'⟩ := efn_bd b.x b.y c.x c.y px py
  obtain ⟨q1, q1'⟩ := efn_bd c.x c.y a.x a.y px py
  obtain ⟨q2, q2'⟩ := efn_bd a.x a.y b.x b.y px py
  rw [h0] at c0 q0 q0'
  rw [h1] at c1 q1 q1'
  rw [h2] at c2 q2 q2'
  have C0 := Lib.hid c0
  have C1 := Lib.hid c1
  have C2 := Lib.hid c2
  clear h h0 h1 h2 c0 c1 c2
  go_enter Try.func19, Try.ntmps19
  go_wp2_with (first
    | ((with_reducible refine eload17L rk_tr Etr ?_ ?_); (focus rfl))
    | (go_at_call 23; (with_reducible refine (CV.out _).mono ?_); rintro _ W1 ⟨rfl, B⟩; replace BB := bon BB B; replace Etr := rangeAt_on Etr (B); replace XR := XR.on (Nat.succ_pos _) (B); clear B))
  have lr := XR.lt (Nat.succ_pos _)
  refine wp_region_mix1 (af := ?afw) 13 (by kernel_rfl) zero_a3 (Nat.succ_pos _) rfl (by kernel_rfl) (by kernel_rfl) ?h1w ?h2w
  case h1w =>
    intro U9 BU9
    simp only [List.take_succ_cons, List.take_zero]
    replace Etr := rangeAt_on Etr (BU9)
    replace XR := XR.on (Nat.succ_pos _) (BU9)
    repeat (first | ((try simp only [List.getElem_toArray, List.getElem_cons_succ, List.getElem_cons_zero]); go_big_quiet_want; refine quiet_eload _ _ rfl rk_tr rfl (fun W hW => rangeAt_on Etr (below_regrown' hW)) rfl ?_; go_simp; go_big_quiet_on) | ((try simp only [List.getElem_toArray, List.getElem_cons_succ, List.getElem_cons_zero]); go_big_quiet_step ((first | (go_at_call 29; with_reducible exact Calls.regrown_of (C0.out _)) | (go_at_call 29; with_reducible exact Calls.regrown_of (C1.out _)) | (go_at_call 29; with_reducible exact Calls.regrown_of (C2.out _))))) | ((try simp only [List.getElem_toArray, List.getElem_cons_succ, List.getElem_cons_zero]); quiet_step ((first | (go_at_call 29; with_reducible exact Calls.regrown_of (C0.out _)) | (go_at_call 29; with_reducible exact Calls.regrown_of (C1.out _)) | (go_at_call 29; with_reducible exact Calls.regrown_of (C2.out _))))))
    refine wpQuiet_nil ?_
    rfl
  intro bu V0 lbu BT9 Xbu
  refine tree_one rfl ?_
  refine esetL (vs := [.int .i64 x0, .int .i64 x1, .int .i64 x2]) rk_a3 rfl rfl Xbu rfl rfl (by simp [Value.oneCell']) ?_
  intro V1 Ybu B9 hc9 hf9
  replace BT9 := BT9.trans (B9.mono lbu)
  replace Xbu := Ybu
  clear B9 hc9 hf9
  refine ⟨BT9, ?_⟩
  refine tree_nil ?_
  replace Etr := rangeAt_on Etr (BT9)
  replace XR := XR.on (Nat.succ_pos _) (BT9)
  replace BB := bon BB BT9
  clear BT9
  have y0 := Xbu.cell (i := 0) rfl
  have y1 := Xbu.cell (i := 1) rfl
  have y2 := Xbu.cell (i := 2) rfl
  have Ea3_0 := range_cut Xbu.1 0 3
  simp only [List.drop_zero, List.take_succ_cons, List.take_zero, Nat.zero_add] at Ea3_0
  have nb : ¬ bu = w.heap.size + 1 := by omega
  clear Etr C0 C1 C2 CV lbu lr y0 y1 y2 Ea3_0
  go_wp2_with fail
  go_simp
  have q8 : ∀ W : World, W.rangeAt bu 0 [.int .i64 x0, .int .i64 x1, .int .i64 x2] → W.rangeAt bu 0 [.int .i64 x0, .int .i64 x1, .int .i64 x2] := fun W h => h
  have S8 : World.rangeAt _ bu 0 [.int .i64 x0, .int .i64 x1, .int .i64 x2] := Xbu.1
  refine wp_region_treeC (fun W => W.rangeAt bu 0 [.int .i64 x0, .int .i64 x1, .int .i64 x2]) (.read 0 (.read 1 (.read 2 (.read 3 (.read 4 (.read 5 (.read 6 (.read 7 (.read 8 (.fork1 9 (.read 10 .nil))))))))))) (by kernel_rfl) (by kernel_rfl) (fun W hB => rangeAt_on S8 hB) ?_
  intro U0 B0
  have j1 : IntKind.i64.wrap (x0 + x1) = x0 + x1 := IntWalk.i64_in _ (by omega)
  have j2 : wrap64 (x0 + x1) = x0 + x1 := by unfold wrap64; omega
  have j3 : IntKind.i64.wrap (x0 + x1 + x2) = x0 + x1 + x2 := IntWalk.i64_in _ (by omega)
  have j4 : wrap64 (x0 + x1 + x2) = x0 + x1 + x2 := by unfold wrap64; omega
  refine tree_read rfl ?_
  try simp only [List.getElem_toArray, List.getElem_cons_succ, List.getElem_cons_zero]
  (go_big_quiet_want; refine quiet_eload _ _ rfl rk_a3 rfl q8 rfl ?_; go_simp; go_big_quiet_on)
  refine wpQuiet_nil ?_
  refine tree_read rfl ?_
  try simp only [List.getElem_toArray, List.getElem_cons_succ, List.getElem_cons_zero]
  go_big_quiet_want
  refine quiet_val (.pointer (some ⟨bu, 0, none⟩)) (fun W hW => by simp [execOp, go_sem]) ?_
  go_simp
  go_big_quiet_on
  refine wpQuiet_nil ?_
  refine tree_read rfl ?_
  try simp only [List.getElem_toArray, List.getElem_cons_succ, List.getElem_cons_zero]
  go_big_quiet_want
  refine quiet_val (.int .i64 x0) (fun W hW => by have h0 := q8 W hW 0 _ rfl; simp only [Nat.zero_add] at h0; simp [execOp, go_sem, h0]) ?_
  go_simp
  go_big_quiet_on
  refine wpQuiet_nil ?_
  refine tree_read rfl ?_
  try simp only [List.getElem_toArray, List.getElem_cons_succ, List.getElem_cons_zero]
  go_big_quiet_want
  refine quiet_val (.pointer (some ⟨bu, 1, none⟩)) (fun W hW => by simp [execOp, go_sem]) ?_
  go_simp
  go_big_quiet_on
  refine wpQuiet_nil ?_
  refine tree_read rfl ?_
  try simp only [List.getElem_toArray, List.getElem_cons_succ, List.getElem_cons_zero]
  go_big_quiet_want
  refine quiet_val (.int .i64 x1) (fun W hW => by have h0 := q8 W hW 1 _ rfl; simp only [Nat.zero_add] at h0; simp [execOp, go_sem, h0]) ?_
  go_simp
  go_big_quiet_on
  refine wpQuiet_nil ?_
  refine tree_read rfl ?_
  try simp only [List.getElem_toArray, List.getElem_cons_succ, List.getElem_cons_zero]
  go_big_quiet_want
  refine quiet_val (.int .i64 (x0 + x1)) (fun W hW => by simp [execOp, go_sem, j1, j2]) ?_
  go_simp
  go_big_quiet_on
  refine wpQuiet_nil ?_
  refine tree_read rfl ?_
  try simp only [List.getElem_toArray, List.getElem_cons_succ, List.getElem_cons_zero]
  go_big_quiet_want
  refine quiet_val (.pointer (some ⟨bu, 2, none⟩)) (fun W hW => by simp [execOp, go_sem]) ?_
  go_simp
  go_big_quiet_on
  refine wpQuiet_nil ?_
  refine tree_read rfl ?_
  try simp only [List.getElem_toArray, List.getElem_cons_succ, List.getElem_cons_zero]
  go_big_quiet_want
  refine quiet_val (.int .i64 x2) (fun W hW => by have h0 := q8 W hW 2 _ rfl; simp only [Nat.zero_add] at h0; simp [execOp, go_sem, h0]) ?_
  go_simp
  go_big_quiet_on
  refine wpQuiet_nil ?_
  refine tree_read rfl ?_
  try simp only [List.getElem_toArray, List.getElem_cons_succ, List.getElem_cons_zero]
  go_big_quiet_want
  refine quiet_val (.int .i64 (x0 + x1 + x2)) (fun W hW => by simp [execOp, go_sem, j1, j2, j3, j4]) ?_
  go_simp
  go_big_quiet_on
  refine wpQuiet_nil ?_
  replace XR := XR.on (Nat.succ_pos _) B0
  refine tree_one rfl ?_
  refine esetL (vs := [.int .i64 x0, .int .i64 x1, .int .i64 x2]) rk_a3 rfl rfl XR rfl rfl (by simp [Value.oneCell']) ?_
  intro V1 X1 B1 hc hf
  have BV := (bon BB B0).trans (B1.mono (by omega))
  refine ⟨fun j v hv => (hc _ (by exact nb)).trans (rangeAt_on S8 B0 j v hv), ?_⟩
  try go_simp
  refine tree_read rfl ?_
  try simp only [List.getElem_toArray, List.getElem_cons_succ, List.getElem_cons_zero]
  go_big_quiet_want
  refine quiet_val (.int .i64 (x0 + x1 + x2)) (fun W hW => by simp [execOp, go_sem]) ?_
  go_simp
  go_big_quiet_on
  refine wpQuiet_nil ?_
  refine tree_nil ?_
  go_wp2
  have r0 := X1.cell (i := 0) rfl
  have r1 := X1.cell (i := 1) rfl
  have r2 := X1.cell (i := 2) rfl
  refine bodyPost_ret (by simp [wres, results, Try.results19, go_sem, r0, r1, r2]) rfl ⟨rfl, BV⟩

theorem rwts_at (a b c : SV) (p : Int) (f : Bool) (px py : Int) (v : Value) (h : wres (wtv a b c px py) = v) (w : World) : Calls Try.prog 19 #[.agg #[.int .i64 a.x, .int .i64 a.y, .int .i64 a.z, .int .i64 a.q, .slice a.A a.n a.c, .int .i64 b.x, .int .i64 b.y, .int .i64 b.z, .int .i64 b.q, .slice b.A b.n b.c, .int .i64 c.x, .int .i64 c.y, .int .i64 c.z, .int .i64 c.q, .slice c.A c.n c.c, .int .i64 p, .bool f], .int .i64 px, .int .i64 py] w fun e w' => e = .returned v ∧ Below w.heap.size w w' := by
  subst h
  cases hv : trv a b c
  · rw [wtv_no _ _ hv]
    exact rwts_no a b c p f px py hv w
  · rw [wtv_yes _ _ hv]
    exact rwts_yes a b c p f px py _ _ _ hv rfl rfl rfl w

set_option maxRecDepth 100000 in
set_option maxHeartbeats 8000000 in
theorem rcov_b (a b c : SV) (p : Int) (f : Bool) (px py : Int) (w : World) : Calls Try.prog 25 #[.agg #[.int .i64 a.x, .int .i64 a.y, .int .i64 a.z, .int .i64 a.q, .slice a.A a.n a.c, .int .i64 b.x, .int .i64 b.y, .int .i64 b.z, .int .i64 b.q, .slice b.A b.n b.c, .int .i64 c.x, .int .i64 c.y, .int .i64 c.z, .int .i64 c.q, .slice c.A c.n c.c, .int .i64 p, .bool f], .int .i64 px, .int .i64 py] w fun e w' => e = .returned (.bool (cov a b c px py)) ∧ Below w.heap.size w w' := by
  have BB := box_below w #[.int .i64 a.x, .int .i64 a.y, .int .i64 a.z, .int .i64 a.q, .slice a.A a.n a.c, .int .i64 b.x, .int .i64 b.y, .int .i64 b.z, .int .i64 b.q, .slice b.A b.n b.c, .int .i64 c.x, .int .i64 c.y, .int .i64 c.z, .int .i64 c.q, .slice c.A c.n c.c, .int .i64 p, .bool f] 34
  have X0 := EBox.made w #[.int .i64 a.x, .int .i64 a.y, .int .i64 a.z, .int .i64 a.q, .slice a.A a.n a.c, .int .i64 b.x, .int .i64 b.y, .int .i64 b.z, .int .i64 b.q, .slice b.A b.n b.c, .int .i64 c.x, .int .i64 c.y, .int .i64 c.z, .int .i64 c.q, .slice c.A c.n c.c, .int .i64 p, .bool f] 34
  have Etr := range_cut X0.1 0 17
  have Esv_0 := range_cut X0.1 0 5
  have Esv_1 := range_cut X0.1 5 5
  have Esv_2 := range_cut X0.1 10 5
  simp only [List.drop_succ_cons, List.drop_zero, List.take_succ_cons, List.take_zero, Nat.zero_add] at Etr Esv_0 Esv_1 Esv_2
  clear X0
  have iw1 : IntKind.i64.wrap 1 = 1 := rfl
  have iw2 : IntKind.i64.wrap 2 = 2 := rfl
  have iw3 : IntKind.i64.wrap 3 = 3 := rfl
  have it1 : (1 : Int).tmod 3 = 1 := rfl
  have it2 : (2 : Int).tmod 3 = 2 := rfl
  have it3 : (3 : Int).tmod 3 = 0 := rfl
  unfold cov
  cases hv : trv a b c
  · have CV := Lib.hid (fun W => rvalid_at a b c p f false hv W)
    clear hv
    go_enter Try.func25, Try.ntmps25
    go_wp2_with (first
    | ((with_reducible refine eload17L rk_tr Etr ?_ ?_); (focus rfl))
    | (go_at_call 23; (with_reducible refine (CV.out _).mono ?_); rintro _ W1 ⟨rfl, B⟩; replace BB := bon BB B; skip; clear B))
    go_ret
    exact ⟨rfl, BB⟩
  have CV := Lib.hid (fun W => rvalid_at a b c p f true hv W)
  clear hv
  go_enter Try.func25, Try.ntmps25
  go_wp2_with (first
    | ((with_reducible refine eload17L rk_tr Etr ?_ ?_); (focus rfl))
    | (go_at_call 23; (with_reducible refine (CV.out _).mono ?_); rintro _ W1 ⟨rfl, B⟩; replace BB := bon BB B; replace Esv_0 := rangeAt_on Esv_0 (B); replace Esv_1 := rangeAt_on Esv_1 (B); replace Esv_2 := rangeAt_on Esv_2 (B); clear B))
  have L0 := Lib.hid Esv_0
  have L1 := Lib.hid Esv_1
  have L2 := Lib.hid Esv_2
  clear Etr Esv_0 Esv_1 Esv_2 CV
  go_loopw [7] (fun i wr => ∃ k : Nat, k ≤ 3 ∧ i = .int .i64 k ∧ Below W1.heap.size W1 wr ∧ (0 < k → acc a.x a.y b.x b.y px py = true) ∧ (1 < k → acc b.x b.y c.x c.y px py = true) ∧ (2 < k → acc c.x c.y a.x a.y px py = true)) (fun i _ => 3 - (intOf i).toNat)
  case atStart => exact ⟨0, Nat.zero_le _, rfl, Below.refl _ _, by omega, by omega, by omega⟩
  case round =>
    obtain ⟨k, hk, rfl, B1, ha, hb, hc⟩ := hrel
    rename World => wr
    rcases (show k = 0 ∨ k = 1 ∨ k = 2 ∨ k = 3 by omega) with rfl | rfl | rfl | rfl
    · have BX := BB
      clear BB
      have BB := B1
      clear ha hb hc
      have Esv_0 := rangeAt_on L0.out B1
      have Esv_1 := rangeAt_on L1.out B1
      have Esv_2 := rangeAt_on L2.out B1
      have ca := fun W => racc_b a.x a.y b.x b.y px py W
      obtain ⟨v, hv⟩ : ∃ v, acc a.x a.y b.x b.y px py = v := ⟨_, rfl⟩
      rw [hv] at ca
      have CA := Lib.hid ca
      have H9 := Lib.hid hv
      clear hv ca
      cases v
      · go_wp2_with fail
        refine wp_region_mix2 (af := ?afn0) 10 (by kernel_rfl) zero_sv zero_sv (Nat.succ_pos _) (Nat.succ_pos _) rfl (by kernel_rfl) (by kernel_rfl) ?h1n0 ?h2n0
        case h1n0 =>
          intro U9 BU9
          simp only [List.take_succ_cons, List.take_zero]
          replace Esv_0 := rangeAt_on Esv_0 (BU9)
          replace Esv_1 := rangeAt_on Esv_1 (BU9)
          replace Esv_2 := rangeAt_on Esv_2 (BU9)
          repeat (first | ((try simp only [List.getElem_toArray, List.getElem_cons_succ, List.getElem_cons_zero]); go_big_quiet_want; refine quiet_eload _ _ rfl rk_sv rfl (fun W hW => rangeAt_on Esv_0 (below_regrown' hW)) rfl ?_; go_simp; go_big_quiet_on) | ((try simp only [List.getElem_toArray, List.getElem_cons_succ, List.getElem_cons_zero]); go_big_quiet_want; refine quiet_eload _ _ rfl rk_sv rfl (fun W hW => rangeAt_on Esv_1 (below_regrown' hW)) rfl ?_; go_simp; go_big_quiet_on) | ((try simp only [List.getElem_toArray, List.getElem_cons_succ, List.getElem_cons_zero]); go_big_quiet_want; refine quiet_eload _ _ rfl rk_sv rfl (fun W hW => rangeAt_on Esv_2 (below_regrown' hW)) rfl ?_; go_simp; go_big_quiet_on) | ((try simp only [List.getElem_toArray, List.getElem_cons_succ, List.getElem_cons_zero]); go_big_quiet_step (fail)) | ((try simp only [List.getElem_toArray, List.getElem_cons_succ, List.getElem_cons_zero]); quiet_step (fail)))
          refine wpQuiet_nil ?_
          rfl
        intro ba bb V0 hne9 lba lbb BT9 Xba Xbb
        refine tree_one rfl ?_
        refine esetL (vs := [.int .i64 a.x, .int .i64 a.y, .int .i64 a.z, .int .i64 a.q, .slice a.A a.n a.c]) rk_sv rfl rfl Xba rfl rfl (by simp [Value.oneCell']) ?_
        intro V1 Yba B9 hc9 hf9
        replace BT9 := BT9.trans (B9.mono lba)
        replace Xbb := Xbb.keep (by omega) hc9 hf9
        replace Xba := Yba
        clear B9 hc9 hf9
        refine ⟨BT9, ?_⟩
        refine tree_one rfl ?_
        refine esetL (vs := [.int .i64 b.x, .int .i64 b.y, .int .i64 b.z, .int .i64 b.q, .slice b.A b.n b.c]) rk_sv rfl rfl Xbb rfl rfl (by simp [Value.oneCell']) ?_
        intro V2 Ybb B9 hc9 hf9
        replace BT9 := BT9.trans (B9.mono lbb)
        replace Xba := Xba.keep (by omega) hc9 hf9
        replace Xbb := Ybb
        clear B9 hc9 hf9
        refine ⟨BT9, ?_⟩
        refine tree_nil ?_
        replace Esv_0 := rangeAt_on Esv_0 (BT9)
        replace Esv_1 := rangeAt_on Esv_1 (BT9)
        replace Esv_2 := rangeAt_on Esv_2 (BT9)
        replace BB := bon BB BT9
        clear BT9
        have a0 := Xba.cell (i := 0) rfl
        have a1 := Xba.cell (i := 1) rfl
        have b0 := Xbb.cell (i := 0) rfl
        have b1 := Xbb.cell (i := 1) rfl
        clear Xba Xbb Esv_0 Esv_1 Esv_2
        go_wp2_with (go_at_call 17; (with_reducible refine (CA.out _).mono ?_); rintro _ W5 ⟨rfl, B⟩; replace BB := bon BB B; skip; clear B)
        go_ret
        exact ⟨ret_bool (by rw [H9.out]; rfl), bon BX BB⟩
      · go_wp2_with fail
        refine wp_region_mix2 (af := ?afy0) 10 (by kernel_rfl) zero_sv zero_sv (Nat.succ_pos _) (Nat.succ_pos _) rfl (by kernel_rfl) (by kernel_rfl) ?h1y0 ?h2y0
        case h1y0 =>
          intro U9 BU9
          simp only [List.take_succ_cons, List.take_zero]
          replace Esv_0 := rangeAt_on Esv_0 (BU9)
          replace Esv_1 := rangeAt_on Esv_1 (BU9)
          replace Esv_2 := rangeAt_on Esv_2 (BU9)
          repeat (first | ((try simp only [List.getElem_toArray, List.getElem_cons_succ, List.getElem_cons_zero]); go_big_quiet_want; refine quiet_eload _ _ rfl rk_sv rfl (fun W hW => rangeAt_on Esv_0 (below_regrown' hW)) rfl ?_; go_simp; go_big_quiet_on) | ((try simp only [List.getElem_toArray, List.getElem_cons_succ, List.getElem_cons_zero]); go_big_quiet_want; refine quiet_eload _ _ rfl rk_sv rfl (fun W hW => rangeAt_on Esv_1 (below_regrown' hW)) rfl ?_; go_simp; go_big_quiet_on) | ((try simp only [List.getElem_toArray, List.getElem_cons_succ, List.getElem_cons_zero]); go_big_quiet_want; refine quiet_eload _ _ rfl rk_sv rfl (fun W hW => rangeAt_on Esv_2 (below_regrown' hW)) rfl ?_; go_simp; go_big_quiet_on) | ((try simp only [List.getElem_toArray, List.getElem_cons_succ, List.getElem_cons_zero]); go_big_quiet_step (fail)) | ((try simp only [List.getElem_toArray, List.getElem_cons_succ, List.getElem_cons_zero]); quiet_step (fail)))
          refine wpQuiet_nil ?_
          rfl
        intro ba bb V0 hne9 lba lbb BT9 Xba Xbb
        refine tree_one rfl ?_
        refine esetL (vs := [.int .i64 a.x, .int .i64 a.y, .int .i64 a.z, .int .i64 a.q, .slice a.A a.n a.c]) rk_sv rfl rfl Xba rfl rfl (by simp [Value.oneCell']) ?_
        intro V1 Yba B9 hc9 hf9
        replace BT9 := BT9.trans (B9.mono lba)
        replace Xbb := Xbb.keep (by omega) hc9 hf9
        replace Xba := Yba
        clear B9 hc9 hf9
        refine ⟨BT9, ?_⟩
        refine tree_one rfl ?_
        refine esetL (vs := [.int .i64 b.x, .int .i64 b.y, .int .i64 b.z, .int .i64 b.q, .slice b.A b.n b.c]) rk_sv rfl rfl Xbb rfl rfl (by simp [Value.oneCell']) ?_
        intro V2 Ybb B9 hc9 hf9
        replace BT9 := BT9.trans (B9.mono lbb)
        replace Xba := Xba.keep (by omega) hc9 hf9
        replace Xbb := Ybb
        clear B9 hc9 hf9
        refine ⟨BT9, ?_⟩
        refine tree_nil ?_
        replace Esv_0 := rangeAt_on Esv_0 (BT9)
        replace Esv_1 := rangeAt_on Esv_1 (BT9)
        replace Esv_2 := rangeAt_on Esv_2 (BT9)
        replace BB := bon BB BT9
        clear BT9
        have a0 := Xba.cell (i := 0) rfl
        have a1 := Xba.cell (i := 1) rfl
        have b0 := Xbb.cell (i := 0) rfl
        have b1 := Xbb.cell (i := 1) rfl
        clear Xba Xbb Esv_0 Esv_1 Esv_2
        go_wp2_with (go_at_call 17; (with_reducible refine (CA.out _).mono ?_); rintro _ W5 ⟨rfl, B⟩; replace BB := bon BB B; skip; clear B)
        go_roundw
        case rel => exact ⟨1, by omega, by go_num, BB, fun _ => H9.out, by omega, by omega⟩
        case measure => simp [intOf]
    · have BX := BB
      clear BB
      have BB := B1
      have H0 := Lib.hid (ha (by omega))
      clear ha hb hc
      have Esv_0 := rangeAt_on L0.out B1
      have Esv_1 := rangeAt_on L1.out B1
      have Esv_2 := rangeAt_on L2.out B1
      have ca := fun W => racc_b b.x b.y c.x c.y px py W
      obtain ⟨v, hv⟩ : ∃ v, acc b.x b.y c.x c.y px py = v := ⟨_, rfl⟩
      rw [hv] at ca
      have CA := Lib.hid ca
      have H9 := Lib.hid hv
      clear hv ca
      cases v
      · go_wp2_with fail
        refine wp_region_mix2 (af := ?afn1) 10 (by kernel_rfl) zero_sv zero_sv (Nat.succ_pos _) (Nat.succ_pos _) rfl (by kernel_rfl) (by kernel_rfl) ?h1n1 ?h2n1
        case h1n1 =>
          intro U9 BU9
          simp only [List.take_succ_cons, List.take_zero]
          replace Esv_0 := rangeAt_on Esv_0 (BU9)
          replace Esv_1 := rangeAt_on Esv_1 (BU9)
          replace Esv_2 := rangeAt_on Esv_2 (BU9)
          repeat (first | ((try simp only [List.getElem_toArray, List.getElem_cons_succ, List.getElem_cons_zero]); go_big_quiet_want; refine quiet_eload _ _ rfl rk_sv rfl (fun W hW => rangeAt_on Esv_0 (below_regrown' hW)) rfl ?_; go_simp; go_big_quiet_on) | ((try simp only [List.getElem_toArray, List.getElem_cons_succ, List.getElem_cons_zero]); go_big_quiet_want; refine quiet_eload _ _ rfl rk_sv rfl (fun W hW => rangeAt_on Esv_1 (below_regrown' hW)) rfl ?_; go_simp; go_big_quiet_on) | ((try simp only [List.getElem_toArray, List.getElem_cons_succ, List.getElem_cons_zero]); go_big_quiet_want; refine quiet_eload _ _ rfl rk_sv rfl (fun W hW => rangeAt_on Esv_2 (below_regrown' hW)) rfl ?_; go_simp; go_big_quiet_on) | ((try simp only [List.getElem_toArray, List.getElem_cons_succ, List.getElem_cons_zero]); go_big_quiet_step (fail)) | ((try simp only [List.getElem_toArray, List.getElem_cons_succ, List.getElem_cons_zero]); quiet_step (fail)))
          refine wpQuiet_nil ?_
          rfl
        intro ba bb V0 hne9 lba lbb BT9 Xba Xbb
        refine tree_one rfl ?_
        refine esetL (vs := [.int .i64 b.x, .int .i64 b.y, .int .i64 b.z, .int .i64 b.q, .slice b.A b.n b.c]) rk_sv rfl rfl Xba rfl rfl (by simp [Value.oneCell']) ?_
        intro V1 Yba B9 hc9 hf9
        replace BT9 := BT9.trans (B9.mono lba)
        replace Xbb := Xbb.keep (by omega) hc9 hf9
        replace Xba := Yba
        clear B9 hc9 hf9
        refine ⟨BT9, ?_⟩
        refine tree_one rfl ?_
        refine esetL (vs := [.int .i64 c.x, .int .i64 c.y, .int .i64 c.z, .int .i64 c.q, .slice c.A c.n c.c]) rk_sv rfl rfl Xbb rfl rfl (by simp [Value.oneCell']) ?_
        intro V2 Ybb B9 hc9 hf9
        replace BT9 := BT9.trans (B9.mono lbb)
        replace Xba := Xba.keep (by omega) hc9 hf9
        replace Xbb := Ybb
        clear B9 hc9 hf9
        refine ⟨BT9, ?_⟩
        refine tree_nil ?_
        replace Esv_0 := rangeAt_on Esv_0 (BT9)
        replace Esv_1 := rangeAt_on Esv_1 (BT9)
        replace Esv_2 := rangeAt_on Esv_2 (BT9)
        replace BB := bon BB BT9
        clear BT9
        have a0 := Xba.cell (i := 0) rfl
        have a1 := Xba.cell (i := 1) rfl
        have b0 := Xbb.cell (i := 0) rfl
        have b1 := Xbb.cell (i := 1) rfl
        clear Xba Xbb Esv_0 Esv_1 Esv_2
        go_wp2_with (go_at_call 17; (with_reducible refine (CA.out _).mono ?_); rintro _ W5 ⟨rfl, B⟩; replace BB := bon BB B; skip; clear B)
        go_ret
        exact ⟨ret_bool (by rw [H0.out]; rw [H9.out]; rfl), bon BX BB⟩
      · go_wp2_with fail
        refine wp_region_mix2 (af := ?afy1) 10 (by kernel_rfl) zero_sv zero_sv (Nat.succ_pos _) (Nat.succ_pos _) rfl (by kernel_rfl) (by kernel_rfl) ?h1y1 ?h2y1
        case h1y1 =>
          intro U9 BU9
          simp only [List.take_succ_cons, List.take_zero]
          replace Esv_0 := rangeAt_on Esv_0 (BU9)
          replace Esv_1 := rangeAt_on Esv_1 (BU9)
          replace Esv_2 := rangeAt_on Esv_2 (BU9)
          repeat (first | ((try simp only [List.getElem_toArray, List.getElem_cons_succ, List.getElem_cons_zero]); go_big_quiet_want; refine quiet_eload _ _ rfl rk_sv rfl (fun W hW => rangeAt_on Esv_0 (below_regrown' hW)) rfl ?_; go_simp; go_big_quiet_on) | ((try simp only [List.getElem_toArray, List.getElem_cons_succ, List.getElem_cons_zero]); go_big_quiet_want; refine quiet_eload _ _ rfl rk_sv rfl (fun W hW => rangeAt_on Esv_1 (below_regrown' hW)) rfl ?_; go_simp; go_big_quiet_on) | ((try simp only [List.getElem_toArray, List.getElem_cons_succ, List.getElem_cons_zero]); go_big_quiet_want; refine quiet_eload _ _ rfl rk_sv rfl (fun W hW => rangeAt_on Esv_2 (below_regrown' hW)) rfl ?_; go_simp; go_big_quiet_on) | ((try simp only [List.getElem_toArray, List.getElem_cons_succ, List.getElem_cons_zero]); go_big_quiet_step (fail)) | ((try simp only [List.getElem_toArray, List.getElem_cons_succ, List.getElem_cons_zero]); quiet_step (fail)))
          refine wpQuiet_nil ?_
          rfl
        intro ba bb V0 hne9 lba lbb BT9 Xba Xbb
        refine tree_one rfl ?_
        refine esetL (vs := [.int .i64 b.x, .int .i64 b.y, .int .i64 b.z, .int .i64 b.q, .slice b.A b.n b.c]) rk_sv rfl rfl Xba rfl rfl (by simp [Value.oneCell']) ?_
        intro V1 Yba B9 hc9 hf9
        replace BT9 := BT9.trans (B9.mono lba)
        replace Xbb := Xbb.keep (by omega) hc9 hf9
        replace Xba := Yba
        clear B9 hc9 hf9
        refine ⟨BT9, ?_⟩
        refine tree_one rfl ?_
        refine esetL (vs := [.int .i64 c.x, .int .i64 c.y, .int .i64 c.z, .int .i64 c.q, .slice c.A c.n c.c]) rk_sv rfl rfl Xbb rfl rfl (by simp [Value.oneCell']) ?_
        intro V2 Ybb B9 hc9 hf9
        replace BT9 := BT9.trans (B9.mono lbb)
        replace Xba := Xba.keep (by omega) hc9 hf9
        replace Xbb := Ybb
        clear B9 hc9 hf9
        refine ⟨BT9, ?_⟩
        refine tree_nil ?_
        replace Esv_0 := rangeAt_on Esv_0 (BT9)
        replace Esv_1 := rangeAt_on Esv_1 (BT9)
        replace Esv_2 := rangeAt_on Esv_2 (BT9)
        replace BB := bon BB BT9
        clear BT9
        have a0 := Xba.cell (i := 0) rfl
        have a1 := Xba.cell (i := 1) rfl
        have b0 := Xbb.cell (i := 0) rfl
        have b1 := Xbb.cell (i := 1) rfl
        clear Xba Xbb Esv_0 Esv_1 Esv_2
        go_wp2_with (go_at_call 17; (with_reducible refine (CA.out _).mono ?_); rintro _ W5 ⟨rfl, B⟩; replace BB := bon BB B; skip; clear B)
        go_roundw
        case rel => exact ⟨2, by omega, by go_num, BB, fun _ => H0.out, fun _ => H9.out, by omega⟩
        case measure => simp [intOf]
    · have BX := BB
      clear BB
      have BB := B1
      have H0 := Lib.hid (ha (by omega))
      have H1 := Lib.hid (hb (by omega))
      clear ha hb hc
      have Esv_0 := rangeAt_on L0.out B1
      have Esv_1 := rangeAt_on L1.out B1
      have Esv_2 := rangeAt_on L2.out B1
      have ca := fun W => racc_b c.x c.y a.x a.y px py W
      obtain ⟨v, hv⟩ : ∃ v, acc c.x c.y a.x a.y px py = v := ⟨_, rfl⟩
      rw [hv] at ca
      have CA := Lib.hid ca
      have H9 := Lib.hid hv
      clear hv ca
      cases v
      · go_wp2_with fail
        refine wp_region_mix2 (af := ?afn2) 10 (by kernel_rfl) zero_sv zero_sv (Nat.succ_pos _) (Nat.succ_pos _) rfl (by kernel_rfl) (by kernel_rfl) ?h1n2 ?h2n2
        case h1n2 =>
          intro U9 BU9
          simp only [List.take_succ_cons, List.take_zero]
          replace Esv_0 := rangeAt_on Esv_0 (BU9)
          replace Esv_1 := rangeAt_on Esv_1 (BU9)
          replace Esv_2 := rangeAt_on Esv_2 (BU9)
          repeat (first | ((try simp only [List.getElem_toArray, List.getElem_cons_succ, List.getElem_cons_zero]); go_big_quiet_want; refine quiet_eload _ _ rfl rk_sv rfl (fun W hW => rangeAt_on Esv_0 (below_regrown' hW)) rfl ?_; go_simp; go_big_quiet_on) | ((try simp only [List.getElem_toArray, List.getElem_cons_succ, List.getElem_cons_zero]); go_big_quiet_want; refine quiet_eload _ _ rfl rk_sv rfl (fun W hW => rangeAt_on Esv_1 (below_regrown' hW)) rfl ?_; go_simp; go_big_quiet_on) | ((try simp only [List.getElem_toArray, List.getElem_cons_succ, List.getElem_cons_zero]); go_big_quiet_want; refine quiet_eload _ _ rfl rk_sv rfl (fun W hW => rangeAt_on Esv_2 (below_regrown' hW)) rfl ?_; go_simp; go_big_quiet_on) | ((try simp only [List.getElem_toArray, List.getElem_cons_succ, List.getElem_cons_zero]); go_big_quiet_step (fail)) | ((try simp only [List.getElem_toArray, List.getElem_cons_succ, List.getElem_cons_zero]); quiet_step (fail)))
          refine wpQuiet_nil ?_
          rfl
        intro ba bb V0 hne9 lba lbb BT9 Xba Xbb
        refine tree_one rfl ?_
        refine esetL (vs := [.int .i64 c.x, .int .i64 c.y, .int .i64 c.z, .int .i64 c.q, .slice c.A c.n c.c]) rk_sv rfl rfl Xba rfl rfl (by simp [Value.oneCell']) ?_
        intro V1 Yba B9 hc9 hf9
        replace BT9 := BT9.trans (B9.mono lba)
        replace Xbb := Xbb.keep (by omega) hc9 hf9
        replace Xba := Yba
        clear B9 hc9 hf9
        refine ⟨BT9, ?_⟩
        refine tree_one rfl ?_
        refine esetL (vs := [.int .i64 a.x, .int .i64 a.y, .int .i64 a.z, .int .i64 a.q, .slice a.A a.n a.c]) rk_sv rfl rfl Xbb rfl rfl (by simp [Value.oneCell']) ?_
        intro V2 Ybb B9 hc9 hf9
        replace BT9 := BT9.trans (B9.mono lbb)
        replace Xba := Xba.keep (by omega) hc9 hf9
        replace Xbb := Ybb
        clear B9 hc9 hf9
        refine ⟨BT9, ?_⟩
        refine tree_nil ?_
        replace Esv_0 := rangeAt_on Esv_0 (BT9)
        replace Esv_1 := rangeAt_on Esv_1 (BT9)
        replace Esv_2 := rangeAt_on Esv_2 (BT9)
        replace BB := bon BB BT9
        clear BT9
        have a0 := Xba.cell (i := 0) rfl
        have a1 := Xba.cell (i := 1) rfl
        have b0 := Xbb.cell (i := 0) rfl
        have b1 := Xbb.cell (i := 1) rfl
        clear Xba Xbb Esv_0 Esv_1 Esv_2
        go_wp2_with (go_at_call 17; (with_reducible refine (CA.out _).mono ?_); rintro _ W5 ⟨rfl, B⟩; replace BB := bon BB B; skip; clear B)
        go_ret
        exact ⟨ret_bool (by rw [H0.out]; rw [H1.out]; rw [H9.out]; rfl), bon BX BB⟩
      · go_wp2_with fail
        refine wp_region_mix2 (af := ?afy2) 10 (by kernel_rfl) zero_sv zero_sv (Nat.succ_pos _) (Nat.succ_pos _) rfl (by kernel_rfl) (by kernel_rfl) ?h1y2 ?h2y2
        case h1y2 =>
          intro U9 BU9
          simp only [List.take_succ_cons, List.take_zero]
          replace Esv_0 := rangeAt_on Esv_0 (BU9)
          replace Esv_1 := rangeAt_on Esv_1 (BU9)
          replace Esv_2 := rangeAt_on Esv_2 (BU9)
          repeat (first | ((try simp only [List.getElem_toArray, List.getElem_cons_succ, List.getElem_cons_zero]); go_big_quiet_want; refine quiet_eload _ _ rfl rk_sv rfl (fun W hW => rangeAt_on Esv_0 (below_regrown' hW)) rfl ?_; go_simp; go_big_quiet_on) | ((try simp only [List.getElem_toArray, List.getElem_cons_succ, List.getElem_cons_zero]); go_big_quiet_want; refine quiet_eload _ _ rfl rk_sv rfl (fun W hW => rangeAt_on Esv_1 (below_regrown' hW)) rfl ?_; go_simp; go_big_quiet_on) | ((try simp only [List.getElem_toArray, List.getElem_cons_succ, List.getElem_cons_zero]); go_big_quiet_want; refine quiet_eload _ _ rfl rk_sv rfl (fun W hW => rangeAt_on Esv_2 (below_regrown' hW)) rfl ?_; go_simp; go_big_quiet_on) | ((try simp only [List.getElem_toArray, List.getElem_cons_succ, List.getElem_cons_zero]); go_big_quiet_step (fail)) | ((try simp only [List.getElem_toArray, List.getElem_cons_succ, List.getElem_cons_zero]); quiet_step (fail)))
          refine wpQuiet_nil ?_
          rfl
        intro ba bb V0 hne9 lba lbb BT9 Xba Xbb
        refine tree_one rfl ?_
        refine esetL (vs := [.int .i64 c.x, .int .i64 c.y, .int .i64 c.z, .int .i64 c.q, .slice c.A c.n c.c]) rk_sv rfl rfl Xba rfl rfl (by simp [Value.oneCell']) ?_
        intro V1 Yba B9 hc9 hf9
        replace BT9 := BT9.trans (B9.mono lba)
        replace Xbb := Xbb.keep (by omega) hc9 hf9
        replace Xba := Yba
        clear B9 hc9 hf9
        refine ⟨BT9, ?_⟩
        refine tree_one rfl ?_
        refine esetL (vs := [.int .i64 a.x, .int .i64 a.y, .int .i64 a.z, .int .i64 a.q, .slice a.A a.n a.c]) rk_sv rfl rfl Xbb rfl rfl (by simp [Value.oneCell']) ?_
        intro V2 Ybb B9 hc9 hf9
        replace BT9 := BT9.trans (B9.mono lbb)
        replace Xba := Xba.keep (by omega) hc9 hf9
        replace Xbb := Ybb
        clear B9 hc9 hf9
        refine ⟨BT9, ?_⟩
        refine tree_nil ?_
        replace Esv_0 := rangeAt_on Esv_0 (BT9)
        replace Esv_1 := rangeAt_on Esv_1 (BT9)
        replace Esv_2 := rangeAt_on Esv_2 (BT9)
        replace BB := bon BB BT9
        clear BT9
        have a0 := Xba.cell (i := 0) rfl
        have a1 := Xba.cell (i := 1) rfl
        have b0 := Xbb.cell (i := 0) rfl
        have b1 := Xbb.cell (i := 1) rfl
        clear Xba Xbb Esv_0 Esv_1 Esv_2
        go_wp2_with (go_at_call 17; (with_reducible refine (CA.out _).mono ?_); rintro _ W5 ⟨rfl, B⟩; replace BB := bon BB B; skip; clear B)
        go_roundw
        case rel => exact ⟨3, by omega, by go_num, BB, fun _ => H0.out, fun _ => H1.out, fun _ => H9.out⟩
        case measure => simp [intOf]
    · have HA := Lib.hid (ha (by omega))
      have HB := Lib.hid (hb (by omega))
      have HC := Lib.hid (hc (by omega))
      go_wp2
      go_ret
      exact ⟨ret_bool (by rw [HA.out, HB.out, HC.out]; rfl), bon BB B1⟩

theorem rcov_at (a b c : SV) (p : Int) (f : Bool) (px py : Int) (v : Bool) (h : cov a b c px py = v) (w : World) : Calls Try.prog 25 #[.agg #[.int .i64 a.x, .int .i64 a.y, .int .i64 a.z, .int .i64 a.q, .slice a.A a.n a.c, .int .i64 b.x, .int .i64 b.y, .int .i64 b.z, .int .i64 b.q, .slice b.A b.n b.c, .int .i64 c.x, .int .i64 c.y, .int .i64 c.z, .int .i64 c.q, .slice c.A c.n c.c, .int .i64 p, .bool f], .int .i64 px, .int .i64 py] w fun e w' => e = .returned (.bool v) ∧ Below w.heap.size w w' := h ▸ rcov_b a b c p f px py w

end Go.Proofs.Ytmmhnhjipbecdaa
