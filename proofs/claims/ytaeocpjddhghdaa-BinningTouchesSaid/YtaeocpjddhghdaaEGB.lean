/- Bounds and Valid of package edge and of the reference. -/
import Derived.Test.YtaeocpjddhghdaaEG2
import Derived.Test.YtaeocpjddhghdaaMix
import Derived.Laws.Cover1
namespace Go.Proofs.Ytaeocpjddhghdaa
set_option linter.unusedSimpArgs false
open Go.RowKit Go.Sort Go.ChangeShapes Go.WideShapes
set_option linter.unusedVariables false

def dv (ax ay bx by' px py : Int) : Int := (bx - ax) * (py - ay) - (by' - ay) * (px - ax)

/-- A valid triangle lies on the screen. -/
theorem trv_in {a b c : SV} (h : tgv a b c = true) : (onv a.x = a.x ∧ onv a.y = a.y ∧ onv b.x = b.x ∧ onv b.y = b.y ∧ onv c.x = c.x ∧ onv c.y = c.y) ∧ areav a b c = dv a.x a.y b.x b.y c.x c.y ∧ 0 < dv a.x a.y b.x b.y c.x c.y := by
  unfold tgv at h
  rw [decide_eq_true_eq] at h
  by_cases hi : inr3 a b c = true
  · have e : areav a b c = dv a.x a.y b.x b.y c.x c.y := by unfold areav; rw [if_pos hi]; rfl
    rw [e] at h
    unfold inr3 at hi
    simp only [Bool.and_eq_true] at hi
    have h1 := inr_ways a
    have h2 := inr_ways b
    have h3 := inr_ways c
    simp only [hi.1.1, hi.1.2, hi.2, Bool.true_eq_false, and_false, or_false] at h1 h2 h3
    exact ⟨⟨onv_id _ h1.1 h1.2.1, onv_id _ h1.2.2.1 h1.2.2.2.1, onv_id _ h2.1 h2.2.1, onv_id _ h2.2.2.1 h2.2.2.2.1, onv_id _ h3.1 h3.2.1, onv_id _ h3.2.2.1 h3.2.2.2.1⟩, e, h⟩
  · unfold areav at h
    rw [if_neg hi] at h
    omega

def min3 (a b c : Int) : Int := min a (min b c)

def max3 (a b c : Int) : Int := max a (max b c)

def bds (a b c : SV) : Value := if tgv a b c = true then .tuple #[.int .i64 (min3 a.x b.x c.x), .int .i64 (min3 a.y b.y c.y), .int .i64 (max3 a.x b.x c.x), .int .i64 (max3 a.y b.y c.y)] else .tuple #[.int .i64 0, .int .i64 0, .int .i64 0, .int .i64 0]

theorem min_is3 (x y z : Int) (ts : Array TypeId) (t : TypeId) (w : World) : (Builtin.min_ ts t #[.int .i64 x, .int .i64 y, .int .i64 z]).run Try.prog w = .ok (.int .i64 (min3 x y z)) w := by
  rw [run_min_int3]
  congr 2
  unfold min3
  split <;> split <;> omega

theorem max_is3 (x y z : Int) (ts : Array TypeId) (t : TypeId) (w : World) : (Builtin.max_ ts t #[.int .i64 x, .int .i64 y, .int .i64 z]).run Try.prog w = .ok (.int .i64 (max3 x y z)) w := by
  rw [run_max_int3]
  congr 2
  unfold max3
  split <;> split <;> omega

set_option maxRecDepth 100000 in
set_option maxHeartbeats 2000000 in
theorem bounds_b (a b c : SV) (p : Int) (f : Bool) (w : World) : Calls Try.prog 32 #[.agg #[.int .i64 a.x, .int .i64 a.y, .int .i64 a.z, .int .i64 a.q, .slice a.A a.n a.c, .int .i64 b.x, .int .i64 b.y, .int .i64 b.z, .int .i64 b.q, .slice b.A b.n b.c, .int .i64 c.x, .int .i64 c.y, .int .i64 c.z, .int .i64 c.q, .slice c.A c.n c.c, .int .i64 p, .bool f]] w fun e w' => e = .returned (bds a b c) ∧ Below w.heap.size w w' := by
  unfold bds
  have mn := fun x y z ts t w => min_is3 x y z ts t w
  have mx := fun x y z ts t w => max_is3 x y z ts t w
  have BB := box_below w #[.int .i64 a.x, .int .i64 a.y, .int .i64 a.z, .int .i64 a.q, .slice a.A a.n a.c, .int .i64 b.x, .int .i64 b.y, .int .i64 b.z, .int .i64 b.q, .slice b.A b.n b.c, .int .i64 c.x, .int .i64 c.y, .int .i64 c.z, .int .i64 c.q, .slice c.A c.n c.c, .int .i64 p, .bool f] 35
  have X0 := EBox.made w #[.int .i64 a.x, .int .i64 a.y, .int .i64 a.z, .int .i64 a.q, .slice a.A a.n a.c, .int .i64 b.x, .int .i64 b.y, .int .i64 b.z, .int .i64 b.q, .slice b.A b.n b.c, .int .i64 c.x, .int .i64 c.y, .int .i64 c.z, .int .i64 c.q, .slice c.A c.n c.c, .int .i64 p, .bool f] 35
  have Etr := range_cut X0.1 0 17
  have Esv_0 := range_cut X0.1 0 5
  have Esv_1 := range_cut X0.1 5 5
  have Esv_2 := range_cut X0.1 10 5
  simp only [List.drop_succ_cons, List.drop_zero, List.take_succ_cons, List.take_zero, Nat.zero_add] at Etr Esv_0 Esv_1 Esv_2
  clear X0
  cases hv : tgv a b c
  · have CV := Lib.hid (fun W => valid_at a b c p f false hv W)
    clear hv
    go_enter Try.func32, Try.ntmps32
    go_wp2_with (first
    | ((with_reducible refine eload17L rk_tr Etr ?_ ?_); focus rfl)
    | (go_at_call 31; (with_reducible refine (CV.out _).mono ?_); rintro _ W3 ⟨rfl, B⟩; replace BB := bon BB B; skip; clear B))
    exact bodyPost_ret (by simp [results, Try.results32, go_sem]) rfl ⟨rfl, BB⟩
  · have CV := Lib.hid (fun W => valid_at a b c p f true hv W)
    clear hv
    go_enter Try.func32, Try.ntmps32
    go_wp2_with (first
    | ((with_reducible refine eload17L rk_tr Etr ?_ ?_); focus rfl)
    | (go_at_call 31; (with_reducible refine (CV.out _).mono ?_); rintro _ W3 ⟨rfl, B⟩; replace BB := bon BB B; replace Esv_0 := rangeAt_on Esv_0 (B); replace Esv_1 := rangeAt_on Esv_1 (B); replace Esv_2 := rangeAt_on Esv_2 (B); clear B))
    refine wp_region_mix3 (af := ?afb) 9 (by kernel_rfl) zero_sv zero_sv zero_sv (Nat.succ_pos _) (Nat.succ_pos _) (Nat.succ_pos _) rfl (by kernel_rfl) (by kernel_rfl) ?h1b ?h2b
    case h1b =>
      intro U9 BU9
      simp only [List.take_succ_cons, List.take_zero]
      replace Esv_0 := rangeAt_on Esv_0 (BU9)
      replace Esv_1 := rangeAt_on Esv_1 (BU9)
      replace Esv_2 := rangeAt_on Esv_2 (BU9)
      repeat (first | ((try simp only [List.getElem_toArray, List.getElem_cons_succ, List.getElem_cons_zero]); go_big_quiet_want; refine quiet_eload _ _ rfl rk_sv rfl (fun W hW => rangeAt_on Esv_0 (below_regrown' hW)) rfl ?_; go_simp; go_big_quiet_on) | ((try simp only [List.getElem_toArray, List.getElem_cons_succ, List.getElem_cons_zero]); go_big_quiet_want; refine quiet_eload _ _ rfl rk_sv rfl (fun W hW => rangeAt_on Esv_1 (below_regrown' hW)) rfl ?_; go_simp; go_big_quiet_on) | ((try simp only [List.getElem_toArray, List.getElem_cons_succ, List.getElem_cons_zero]); go_big_quiet_want; refine quiet_eload _ _ rfl rk_sv rfl (fun W hW => rangeAt_on Esv_2 (below_regrown' hW)) rfl ?_; go_simp; go_big_quiet_on) | ((try simp only [List.getElem_toArray, List.getElem_cons_succ, List.getElem_cons_zero]); go_big_quiet_step (fail)) | ((try simp only [List.getElem_toArray, List.getElem_cons_succ, List.getElem_cons_zero]); quiet_step (fail)))
      refine wpQuiet_nil ?_
      rfl
    intro ba bb bc V0 hne9 lba lbb lbc BT9 Xba Xbb Xbc
    obtain ⟨hne9, hne8, hne7⟩ := hne9
    refine tree_one rfl ?_
    refine esetL (vs := [.int .i64 a.x, .int .i64 a.y, .int .i64 a.z, .int .i64 a.q, .slice a.A a.n a.c]) rk_sv rfl rfl Xba rfl rfl (by simp [Value.oneCell']) ?_
    intro V1 Yba B9 hc9 hf9
    replace BT9 := BT9.trans (B9.mono lba)
    replace Xbb := Xbb.keep (by omega) hc9 hf9
    replace Xbc := Xbc.keep (by omega) hc9 hf9
    replace Xba := Yba
    clear B9 hc9 hf9
    refine ⟨BT9, ?_⟩
    refine tree_one rfl ?_
    refine esetL (vs := [.int .i64 b.x, .int .i64 b.y, .int .i64 b.z, .int .i64 b.q, .slice b.A b.n b.c]) rk_sv rfl rfl Xbb rfl rfl (by simp [Value.oneCell']) ?_
    intro V2 Ybb B9 hc9 hf9
    replace BT9 := BT9.trans (B9.mono lbb)
    replace Xba := Xba.keep (by omega) hc9 hf9
    replace Xbc := Xbc.keep (by omega) hc9 hf9
    replace Xbb := Ybb
    clear B9 hc9 hf9
    refine ⟨BT9, ?_⟩
    refine tree_one rfl ?_
    refine esetL (vs := [.int .i64 c.x, .int .i64 c.y, .int .i64 c.z, .int .i64 c.q, .slice c.A c.n c.c]) rk_sv rfl rfl Xbc rfl rfl (by simp [Value.oneCell']) ?_
    intro V3 Ybc B9 hc9 hf9
    replace BT9 := BT9.trans (B9.mono lbc)
    replace Xba := Xba.keep (by omega) hc9 hf9
    replace Xbb := Xbb.keep (by omega) hc9 hf9
    replace Xbc := Ybc
    clear B9 hc9 hf9
    refine ⟨BT9, ?_⟩
    refine tree_nil ?_
    replace Esv_0 := rangeAt_on Esv_0 (BT9)
    replace Esv_1 := rangeAt_on Esv_1 (BT9)
    replace Esv_2 := rangeAt_on Esv_2 (BT9)
    replace BB := bon BB BT9
    clear BT9
    have a0 := Xba.cell (i := 0) rfl
    have a1 := Xba.cell (i := 1) rfl
    have b0 := Xbb.cell (i := 0) rfl
    have b1 := Xbb.cell (i := 1) rfl
    have c0 := Xbc.cell (i := 0) rfl
    have c1 := Xbc.cell (i := 1) rfl
    clear Xba Xbb Xbc Esv_0 Esv_1 Esv_2
    go_wp2_with fail
    go_simp
    refine wp_region_mix0 (af := ?afc) 28 (by kernel_rfl) (by kernel_rfl) (by kernel_rfl) ?h1c ?h2c
    case h1c =>
      intro U9 BU9
      simp only [List.take_succ_cons, List.take_zero]
      replace a0 := cell_below (BU9) a0
      replace a1 := cell_below (BU9) a1
      replace b0 := cell_below (BU9) b0
      replace b1 := cell_below (BU9) b1
      replace c0 := cell_below (BU9) c0
      replace c1 := cell_below (BU9) c1
      have k_a0 := cell_regrown a0
      have k_a1 := cell_regrown a1
      have k_b0 := cell_regrown b0
      have k_b1 := cell_regrown b1
      have k_c0 := cell_regrown c0
      have k_c1 := cell_regrown c1
      repeat (first | ((try simp only [List.getElem_toArray, List.getElem_cons_succ, List.getElem_cons_zero]); go_big_quiet_step (fail)) | ((try simp only [List.getElem_toArray, List.getElem_cons_succ, List.getElem_cons_zero]); quiet_step (fail)))
      refine wpQuiet_nil ?_
      rfl
    intro  V0  BT9 
    refine tree_one rfl ?_
    refine wpList_assignL ?_
    refine ⟨BT9, ?_⟩
    refine tree_one rfl ?_
    refine wpList_assignL ?_
    refine ⟨BT9, ?_⟩
    refine tree_one rfl ?_
    refine wpList_assignL ?_
    refine ⟨BT9, ?_⟩
    refine tree_one rfl ?_
    refine wpList_assignL ?_
    refine ⟨BT9, ?_⟩
    refine tree_nil ?_
    replace a0 := cell_below (BT9) a0
    replace a1 := cell_below (BT9) a1
    replace b0 := cell_below (BT9) b0
    replace b1 := cell_below (BT9) b1
    replace c0 := cell_below (BT9) c0
    replace c1 := cell_below (BT9) c1
    replace BB := bon BB BT9
    clear BT9
    go_simp
    go_wp2
    exact bodyPost_ret (by simp [results, Try.results32, go_sem]) rfl ⟨rfl, BB⟩

theorem bounds_at (a b c : SV) (p : Int) (f : Bool) (v : Value) (h : bds a b c = v) (w : World) : Calls Try.prog 32 #[.agg #[.int .i64 a.x, .int .i64 a.y, .int .i64 a.z, .int .i64 a.q, .slice a.A a.n a.c, .int .i64 b.x, .int .i64 b.y, .int .i64 b.z, .int .i64 b.q, .slice b.A b.n b.c, .int .i64 c.x, .int .i64 c.y, .int .i64 c.z, .int .i64 c.q, .slice c.A c.n c.c, .int .i64 p, .bool f]] w fun e w' => e = .returned v ∧ Below w.heap.size w w' := h ▸ bounds_b a b c p f w

def offv (X Y x y : Int) : Prop := ¬ X = x ∨ ¬ Y = y

def nth3 (a b c : SV) : Nat → SV
  | 0 => a
  | 1 => b
  | _ => c

theorem off_trv {a b c : SV} (k : Nat) : offv (onv (nth3 a b c k).x) (onv (nth3 a b c k).y) (nth3 a b c k).x (nth3 a b c k).y → tgv a b c = false := by
  intro h
  cases hv : tgv a b c
  · rfl
  · exfalso
    obtain ⟨⟨h1, h2, h3, h4, h5, h6⟩, _⟩ := trv_in hv
    unfold offv at h
    match k, h with
    | 0, h => simp only [nth3] at h; omega
    | 1, h => simp only [nth3] at h; omega
    | k + 2, h => simp only [nth3] at h; omega

set_option maxRecDepth 100000 in
set_option maxHeartbeats 4000000 in
theorem rvalid34_b (a b c : SV) (p : Int) (f : Bool) (w : World) : Calls Try.prog 33 #[.agg #[.int .i64 a.x, .int .i64 a.y, .int .i64 a.z, .int .i64 a.q, .slice a.A a.n a.c, .int .i64 b.x, .int .i64 b.y, .int .i64 b.z, .int .i64 b.q, .slice b.A b.n b.c, .int .i64 c.x, .int .i64 c.y, .int .i64 c.z, .int .i64 c.q, .slice c.A c.n c.c, .int .i64 p, .bool f]] w fun e w' => e = .returned (.bool (tgv a b c)) ∧ Below w.heap.size w w' := by
  have BB := box_below w #[.int .i64 a.x, .int .i64 a.y, .int .i64 a.z, .int .i64 a.q, .slice a.A a.n a.c, .int .i64 b.x, .int .i64 b.y, .int .i64 b.z, .int .i64 b.q, .slice b.A b.n b.c, .int .i64 c.x, .int .i64 c.y, .int .i64 c.z, .int .i64 c.q, .slice c.A c.n c.c, .int .i64 p, .bool f] 35
  have X0 := EBox.made w #[.int .i64 a.x, .int .i64 a.y, .int .i64 a.z, .int .i64 a.q, .slice a.A a.n a.c, .int .i64 b.x, .int .i64 b.y, .int .i64 b.z, .int .i64 b.q, .slice b.A b.n b.c, .int .i64 c.x, .int .i64 c.y, .int .i64 c.z, .int .i64 c.q, .slice c.A c.n c.c, .int .i64 p, .bool f] 35
  have v0x := X0.cell (i := 0) rfl
  have v0y := X0.cell (i := 1) rfl
  have v1x := X0.cell (i := 5) rfl
  have v1y := X0.cell (i := 6) rfl
  have v2x := X0.cell (i := 10) rfl
  have v2y := X0.cell (i := 11) rfl
  have Et3 := range_cut X0.1 0 15
  simp only [List.drop_succ_cons, List.drop_zero, List.take_succ_cons, List.take_zero, Nat.zero_add] at Et3
  clear X0
  have LE := Lib.hid Et3
  have L0x := Lib.hid v0x
  have L0y := Lib.hid v0y
  have L1x := Lib.hid v1x
  have L1y := Lib.hid v1y
  have L2x := Lib.hid v2x
  have L2y := Lib.hid v2y
  have LW := Lib.hid BB
  clear Et3 v0x v0y v1x v1y v2x v2y
  go_enter Try.func33, Try.ntmps33
  go_wp2_with fail
  generalize hW : w.alloc (.cells #[.int .i64 a.x, .int .i64 a.y, .int .i64 a.z, .int .i64 a.q, .slice a.A a.n a.c, .int .i64 b.x, .int .i64 b.y, .int .i64 b.z, .int .i64 b.q, .slice b.A b.n b.c, .int .i64 c.x, .int .i64 c.y, .int .i64 c.z, .int .i64 c.q, .slice c.A c.n c.c, .int .i64 p, .bool f] 35) = W1 at *
  clear hW
  go_loopw [3] (fun i wr => ∃ k : Nat, k ≤ 3 ∧ i = .int .i64 k ∧ Below W1.heap.size W1 wr) (fun i _ => 3 - (intOf i).toNat)
  case atStart => exact ⟨0, Nat.zero_le _, rfl, Below.refl _ _⟩
  case round =>
    obtain ⟨k, hk, rfl, B1⟩ := hrel
    rename World => wr
    rcases (show k = 0 ∨ k = 1 ∨ k = 2 ∨ k = 3 by omega) with rfl | rfl | rfl | rfl
    · have BX := BB
      clear BB
      have BB := B1
      have cx := cell_below B1 L0x.out
      have cy := cell_below B1 L0y.out
      have cX := fun W => rlimit_b a.x W
      have cY := fun W => rlimit_b a.y W
      have hn' := off_trv (a := a) (b := b) (c := c) 0
      obtain ⟨X, hX⟩ : ∃ X, onv a.x = X := ⟨_, rfl⟩
      obtain ⟨Y, hY⟩ : ∃ Y, onv a.y = Y := ⟨_, rfl⟩
      simp only [nth3, hX, hY, offv] at hn'
      have hn := Lib.hid hn'
      rw [hX] at cX
      rw [hY] at cY
      have CX := Lib.hid cX
      have CY := Lib.hid cY
      clear cX cY hX hY hn'
      by_cases gx : X = a.x
      · subst gx
        by_cases gy : Y = a.y
        · subst gy
          clear hn
          go_wp2_with fail
          have k_cx := cell_regrown cx
          have k_cy := cell_regrown cy
          refine wp_region_quiet_below (by kernel_rfl) (by kernel_rfl) ?_
          repeat (first | ((try simp only [List.getElem_toArray, List.getElem_cons_succ, List.getElem_cons_zero]); go_big_quiet_step ((first | (go_at_call 38; with_reducible exact Calls.regrown_of (CX.out _)) | (go_at_call 38; with_reducible exact Calls.regrown_of (CY.out _))))) | ((try simp only [List.getElem_toArray, List.getElem_cons_succ, List.getElem_cons_zero]); quiet_step ((first | (go_at_call 38; with_reducible exact Calls.regrown_of (CX.out _)) | (go_at_call 38; with_reducible exact Calls.regrown_of (CY.out _))))))
          refine wpQuiet_nil ?_
          intro W9 hw'
          have B9 := below_regrown' hw'
          clear hw' k_cx k_cy
          replace cx := cell_below (B9) cx
          replace cy := cell_below (B9) cy
          replace BB := bon BB B9
          clear B9
          go_wp2_with fail
          go_roundw
          case rel => exact ⟨1, by omega, by go_num, BB⟩
          case measure => simp [intOf]
        · have ht := Lib.hid (hn.out (.inr gy))
          have g1 : (Y == a.y) = false := by simpa using gy
          clear hn
          go_wp2_with fail
          have k_cx := cell_regrown cx
          have k_cy := cell_regrown cy
          refine wp_region_quiet_below (by kernel_rfl) (by kernel_rfl) ?_
          repeat (first | ((try simp only [List.getElem_toArray, List.getElem_cons_succ, List.getElem_cons_zero]); go_big_quiet_step ((first | (go_at_call 38; with_reducible exact Calls.regrown_of (CX.out _)) | (go_at_call 38; with_reducible exact Calls.regrown_of (CY.out _))))) | ((try simp only [List.getElem_toArray, List.getElem_cons_succ, List.getElem_cons_zero]); quiet_step ((first | (go_at_call 38; with_reducible exact Calls.regrown_of (CX.out _)) | (go_at_call 38; with_reducible exact Calls.regrown_of (CY.out _))))))
          refine wpQuiet_nil ?_
          intro W9 hw'
          have B9 := below_regrown' hw'
          clear hw' k_cx k_cy
          replace cx := cell_below (B9) cx
          replace cy := cell_below (B9) cy
          replace BB := bon BB B9
          clear B9
          go_wp2
          go_ret
          exact ⟨ret_bool (ht.out.symm), bon BX BB⟩
      · have ht := Lib.hid (hn.out (.inl gx))
        have g1 : (X == a.x) = false := by simpa using gx
        clear hn
        go_wp2_with fail
        have k_cx := cell_regrown cx
        have k_cy := cell_regrown cy
        refine wp_region_quiet_below (by kernel_rfl) (by kernel_rfl) ?_
        repeat (first | ((try simp only [List.getElem_toArray, List.getElem_cons_succ, List.getElem_cons_zero]); go_big_quiet_step ((first | (go_at_call 38; with_reducible exact Calls.regrown_of (CX.out _)) | (go_at_call 38; with_reducible exact Calls.regrown_of (CY.out _))))) | ((try simp only [List.getElem_toArray, List.getElem_cons_succ, List.getElem_cons_zero]); quiet_step ((first | (go_at_call 38; with_reducible exact Calls.regrown_of (CX.out _)) | (go_at_call 38; with_reducible exact Calls.regrown_of (CY.out _))))))
        refine wpQuiet_nil ?_
        intro W9 hw'
        have B9 := below_regrown' hw'
        clear hw' k_cx k_cy
        replace cx := cell_below (B9) cx
        replace cy := cell_below (B9) cy
        replace BB := bon BB B9
        clear B9
        go_wp2
        go_ret
        exact ⟨ret_bool (ht.out.symm), bon BX BB⟩
    · have BX := BB
      clear BB
      have BB := B1
      have cx := cell_below B1 L1x.out
      have cy := cell_below B1 L1y.out
      have cX := fun W => rlimit_b b.x W
      have cY := fun W => rlimit_b b.y W
      have hn' := off_trv (a := a) (b := b) (c := c) 1
      obtain ⟨X, hX⟩ : ∃ X, onv b.x = X := ⟨_, rfl⟩
      obtain ⟨Y, hY⟩ : ∃ Y, onv b.y = Y := ⟨_, rfl⟩
      simp only [nth3, hX, hY, offv] at hn'
      have hn := Lib.hid hn'
      rw [hX] at cX
      rw [hY] at cY
      have CX := Lib.hid cX
      have CY := Lib.hid cY
      clear cX cY hX hY hn'
      by_cases gx : X = b.x
      · subst gx
        by_cases gy : Y = b.y
        · subst gy
          clear hn
          go_wp2_with fail
          have k_cx := cell_regrown cx
          have k_cy := cell_regrown cy
          refine wp_region_quiet_below (by kernel_rfl) (by kernel_rfl) ?_
          repeat (first | ((try simp only [List.getElem_toArray, List.getElem_cons_succ, List.getElem_cons_zero]); go_big_quiet_step ((first | (go_at_call 38; with_reducible exact Calls.regrown_of (CX.out _)) | (go_at_call 38; with_reducible exact Calls.regrown_of (CY.out _))))) | ((try simp only [List.getElem_toArray, List.getElem_cons_succ, List.getElem_cons_zero]); quiet_step ((first | (go_at_call 38; with_reducible exact Calls.regrown_of (CX.out _)) | (go_at_call 38; with_reducible exact Calls.regrown_of (CY.out _))))))
          refine wpQuiet_nil ?_
          intro W9 hw'
          have B9 := below_regrown' hw'
          clear hw' k_cx k_cy
          replace cx := cell_below (B9) cx
          replace cy := cell_below (B9) cy
          replace BB := bon BB B9
          clear B9
          go_wp2_with fail
          go_roundw
          case rel => exact ⟨2, by omega, by go_num, BB⟩
          case measure => simp [intOf]
        · have ht := Lib.hid (hn.out (.inr gy))
          have g1 : (Y == b.y) = false := by simpa using gy
          clear hn
          go_wp2_with fail
          have k_cx := cell_regrown cx
          have k_cy := cell_regrown cy
          refine wp_region_quiet_below (by kernel_rfl) (by kernel_rfl) ?_
          repeat (first | ((try simp only [List.getElem_toArray, List.getElem_cons_succ, List.getElem_cons_zero]); go_big_quiet_step ((first | (go_at_call 38; with_reducible exact Calls.regrown_of (CX.out _)) | (go_at_call 38; with_reducible exact Calls.regrown_of (CY.out _))))) | ((try simp only [List.getElem_toArray, List.getElem_cons_succ, List.getElem_cons_zero]); quiet_step ((first | (go_at_call 38; with_reducible exact Calls.regrown_of (CX.out _)) | (go_at_call 38; with_reducible exact Calls.regrown_of (CY.out _))))))
          refine wpQuiet_nil ?_
          intro W9 hw'
          have B9 := below_regrown' hw'
          clear hw' k_cx k_cy
          replace cx := cell_below (B9) cx
          replace cy := cell_below (B9) cy
          replace BB := bon BB B9
          clear B9
          go_wp2
          go_ret
          exact ⟨ret_bool (ht.out.symm), bon BX BB⟩
      · have ht := Lib.hid (hn.out (.inl gx))
        have g1 : (X == b.x) = false := by simpa using gx
        clear hn
        go_wp2_with fail
        have k_cx := cell_regrown cx
        have k_cy := cell_regrown cy
        refine wp_region_quiet_below (by kernel_rfl) (by kernel_rfl) ?_
        repeat (first | ((try simp only [List.getElem_toArray, List.getElem_cons_succ, List.getElem_cons_zero]); go_big_quiet_step ((first | (go_at_call 38; with_reducible exact Calls.regrown_of (CX.out _)) | (go_at_call 38; with_reducible exact Calls.regrown_of (CY.out _))))) | ((try simp only [List.getElem_toArray, List.getElem_cons_succ, List.getElem_cons_zero]); quiet_step ((first | (go_at_call 38; with_reducible exact Calls.regrown_of (CX.out _)) | (go_at_call 38; with_reducible exact Calls.regrown_of (CY.out _))))))
        refine wpQuiet_nil ?_
        intro W9 hw'
        have B9 := below_regrown' hw'
        clear hw' k_cx k_cy
        replace cx := cell_below (B9) cx
        replace cy := cell_below (B9) cy
        replace BB := bon BB B9
        clear B9
        go_wp2
        go_ret
        exact ⟨ret_bool (ht.out.symm), bon BX BB⟩
    · have BX := BB
      clear BB
      have BB := B1
      have cx := cell_below B1 L2x.out
      have cy := cell_below B1 L2y.out
      have cX := fun W => rlimit_b c.x W
      have cY := fun W => rlimit_b c.y W
      have hn' := off_trv (a := a) (b := b) (c := c) 2
      obtain ⟨X, hX⟩ : ∃ X, onv c.x = X := ⟨_, rfl⟩
      obtain ⟨Y, hY⟩ : ∃ Y, onv c.y = Y := ⟨_, rfl⟩
      simp only [nth3, hX, hY, offv] at hn'
      have hn := Lib.hid hn'
      rw [hX] at cX
      rw [hY] at cY
      have CX := Lib.hid cX
      have CY := Lib.hid cY
      clear cX cY hX hY hn'
      by_cases gx : X = c.x
      · subst gx
        by_cases gy : Y = c.y
        · subst gy
          clear hn
          go_wp2_with fail
          have k_cx := cell_regrown cx
          have k_cy := cell_regrown cy
          refine wp_region_quiet_below (by kernel_rfl) (by kernel_rfl) ?_
          repeat (first | ((try simp only [List.getElem_toArray, List.getElem_cons_succ, List.getElem_cons_zero]); go_big_quiet_step ((first | (go_at_call 38; with_reducible exact Calls.regrown_of (CX.out _)) | (go_at_call 38; with_reducible exact Calls.regrown_of (CY.out _))))) | ((try simp only [List.getElem_toArray, List.getElem_cons_succ, List.getElem_cons_zero]); quiet_step ((first | (go_at_call 38; with_reducible exact Calls.regrown_of (CX.out _)) | (go_at_call 38; with_reducible exact Calls.regrown_of (CY.out _))))))
          refine wpQuiet_nil ?_
          intro W9 hw'
          have B9 := below_regrown' hw'
          clear hw' k_cx k_cy
          replace cx := cell_below (B9) cx
          replace cy := cell_below (B9) cy
          replace BB := bon BB B9
          clear B9
          go_wp2_with fail
          go_roundw
          case rel => exact ⟨3, by omega, by go_num, BB⟩
          case measure => simp [intOf]
        · have ht := Lib.hid (hn.out (.inr gy))
          have g1 : (Y == c.y) = false := by simpa using gy
          clear hn
          go_wp2_with fail
          have k_cx := cell_regrown cx
          have k_cy := cell_regrown cy
          refine wp_region_quiet_below (by kernel_rfl) (by kernel_rfl) ?_
          repeat (first | ((try simp only [List.getElem_toArray, List.getElem_cons_succ, List.getElem_cons_zero]); go_big_quiet_step ((first | (go_at_call 38; with_reducible exact Calls.regrown_of (CX.out _)) | (go_at_call 38; with_reducible exact Calls.regrown_of (CY.out _))))) | ((try simp only [List.getElem_toArray, List.getElem_cons_succ, List.getElem_cons_zero]); quiet_step ((first | (go_at_call 38; with_reducible exact Calls.regrown_of (CX.out _)) | (go_at_call 38; with_reducible exact Calls.regrown_of (CY.out _))))))
          refine wpQuiet_nil ?_
          intro W9 hw'
          have B9 := below_regrown' hw'
          clear hw' k_cx k_cy
          replace cx := cell_below (B9) cx
          replace cy := cell_below (B9) cy
          replace BB := bon BB B9
          clear B9
          go_wp2
          go_ret
          exact ⟨ret_bool (ht.out.symm), bon BX BB⟩
      · have ht := Lib.hid (hn.out (.inl gx))
        have g1 : (X == c.x) = false := by simpa using gx
        clear hn
        go_wp2_with fail
        have k_cx := cell_regrown cx
        have k_cy := cell_regrown cy
        refine wp_region_quiet_below (by kernel_rfl) (by kernel_rfl) ?_
        repeat (first | ((try simp only [List.getElem_toArray, List.getElem_cons_succ, List.getElem_cons_zero]); go_big_quiet_step ((first | (go_at_call 38; with_reducible exact Calls.regrown_of (CX.out _)) | (go_at_call 38; with_reducible exact Calls.regrown_of (CY.out _))))) | ((try simp only [List.getElem_toArray, List.getElem_cons_succ, List.getElem_cons_zero]); quiet_step ((first | (go_at_call 38; with_reducible exact Calls.regrown_of (CX.out _)) | (go_at_call 38; with_reducible exact Calls.regrown_of (CY.out _))))))
        refine wpQuiet_nil ?_
        intro W9 hw'
        have B9 := below_regrown' hw'
        clear hw' k_cx k_cy
        replace cx := cell_below (B9) cx
        replace cy := cell_below (B9) cy
        replace BB := bon BB B9
        clear B9
        go_wp2
        go_ret
        exact ⟨ret_bool (ht.out.symm), bon BX BB⟩
    · have Et3 := rangeAt_on LE.out B1
      replace BB := bon BB B1
      go_wp2_with (first
    | ((with_reducible refine eload15L rk_t3 Et3 ?_ ?_); (focus rfl))
    | (go_at_call 39; (with_reducible refine (rarea_b a b c _).mono ?_); rintro _ W5 ⟨rfl, B⟩; replace BB := bon BB B; skip; clear B))
      go_ret
      exact ⟨rfl, BB⟩

theorem rvalid_at (a b c : SV) (p : Int) (f : Bool) (v : Bool) (h : tgv a b c = v) (w : World) : Calls Try.prog 33 #[.agg #[.int .i64 a.x, .int .i64 a.y, .int .i64 a.z, .int .i64 a.q, .slice a.A a.n a.c, .int .i64 b.x, .int .i64 b.y, .int .i64 b.z, .int .i64 b.q, .slice b.A b.n b.c, .int .i64 c.x, .int .i64 c.y, .int .i64 c.z, .int .i64 c.q, .slice c.A c.n c.c, .int .i64 p, .bool f]] w fun e w' => e = .returned (.bool v) ∧ Below w.heap.size w w' := h ▸ rvalid34_b a b c p f w

set_option maxRecDepth 100000 in
set_option maxHeartbeats 2000000 in
theorem rbounds_b (a b c : SV) (p : Int) (f : Bool) (w : World) : Calls Try.prog 34 #[.agg #[.int .i64 a.x, .int .i64 a.y, .int .i64 a.z, .int .i64 a.q, .slice a.A a.n a.c, .int .i64 b.x, .int .i64 b.y, .int .i64 b.z, .int .i64 b.q, .slice b.A b.n b.c, .int .i64 c.x, .int .i64 c.y, .int .i64 c.z, .int .i64 c.q, .slice c.A c.n c.c, .int .i64 p, .bool f]] w fun e w' => e = .returned (bds a b c) ∧ Below w.heap.size w w' := by
  unfold bds
  have mn := fun x y z ts t w => min_is3 x y z ts t w
  have mx := fun x y z ts t w => max_is3 x y z ts t w
  have BB := box_below w #[.int .i64 a.x, .int .i64 a.y, .int .i64 a.z, .int .i64 a.q, .slice a.A a.n a.c, .int .i64 b.x, .int .i64 b.y, .int .i64 b.z, .int .i64 b.q, .slice b.A b.n b.c, .int .i64 c.x, .int .i64 c.y, .int .i64 c.z, .int .i64 c.q, .slice c.A c.n c.c, .int .i64 p, .bool f] 35
  have X0 := EBox.made w #[.int .i64 a.x, .int .i64 a.y, .int .i64 a.z, .int .i64 a.q, .slice a.A a.n a.c, .int .i64 b.x, .int .i64 b.y, .int .i64 b.z, .int .i64 b.q, .slice b.A b.n b.c, .int .i64 c.x, .int .i64 c.y, .int .i64 c.z, .int .i64 c.q, .slice c.A c.n c.c, .int .i64 p, .bool f] 35
  have Etr := range_cut X0.1 0 17
  have Esv_0 := range_cut X0.1 0 5
  have Esv_1 := range_cut X0.1 5 5
  have Esv_2 := range_cut X0.1 10 5
  simp only [List.drop_succ_cons, List.drop_zero, List.take_succ_cons, List.take_zero, Nat.zero_add] at Etr Esv_0 Esv_1 Esv_2
  clear X0
  cases hv : tgv a b c
  · have CV := Lib.hid (fun W => rvalid_at a b c p f false hv W)
    clear hv
    go_enter Try.func34, Try.ntmps34
    go_wp2_with (first
    | ((with_reducible refine eload17L rk_tr Etr ?_ ?_); focus rfl)
    | (go_at_call 33; (with_reducible refine (CV.out _).mono ?_); rintro _ W3 ⟨rfl, B⟩; replace BB := bon BB B; skip; clear B))
    exact bodyPost_ret (by simp [results, Try.results34, go_sem]) rfl ⟨rfl, BB⟩
  · have CV := Lib.hid (fun W => rvalid_at a b c p f true hv W)
    clear hv
    go_enter Try.func34, Try.ntmps34
    go_wp2_with (first
    | ((with_reducible refine eload17L rk_tr Etr ?_ ?_); focus rfl)
    | (go_at_call 33; (with_reducible refine (CV.out _).mono ?_); rintro _ W3 ⟨rfl, B⟩; replace BB := bon BB B; replace Esv_0 := rangeAt_on Esv_0 (B); replace Esv_1 := rangeAt_on Esv_1 (B); replace Esv_2 := rangeAt_on Esv_2 (B); clear B))
    refine wp_region_mix3 (af := ?afrb) 9 (by kernel_rfl) zero_sv zero_sv zero_sv (Nat.succ_pos _) (Nat.succ_pos _) (Nat.succ_pos _) rfl (by kernel_rfl) (by kernel_rfl) ?h1rb ?h2rb
    case h1rb =>
      intro U9 BU9
      simp only [List.take_succ_cons, List.take_zero]
      replace Esv_0 := rangeAt_on Esv_0 (BU9)
      replace Esv_1 := rangeAt_on Esv_1 (BU9)
      replace Esv_2 := rangeAt_on Esv_2 (BU9)
      repeat (first | ((try simp only [List.getElem_toArray, List.getElem_cons_succ, List.getElem_cons_zero]); go_big_quiet_want; refine quiet_eload _ _ rfl rk_sv rfl (fun W hW => rangeAt_on Esv_0 (below_regrown' hW)) rfl ?_; go_simp; go_big_quiet_on) | ((try simp only [List.getElem_toArray, List.getElem_cons_succ, List.getElem_cons_zero]); go_big_quiet_want; refine quiet_eload _ _ rfl rk_sv rfl (fun W hW => rangeAt_on Esv_1 (below_regrown' hW)) rfl ?_; go_simp; go_big_quiet_on) | ((try simp only [List.getElem_toArray, List.getElem_cons_succ, List.getElem_cons_zero]); go_big_quiet_want; refine quiet_eload _ _ rfl rk_sv rfl (fun W hW => rangeAt_on Esv_2 (below_regrown' hW)) rfl ?_; go_simp; go_big_quiet_on) | ((try simp only [List.getElem_toArray, List.getElem_cons_succ, List.getElem_cons_zero]); go_big_quiet_step (fail)) | ((try simp only [List.getElem_toArray, List.getElem_cons_succ, List.getElem_cons_zero]); quiet_step (fail)))
      refine wpQuiet_nil ?_
      rfl
    intro ba bb bc V0 hne9 lba lbb lbc BT9 Xba Xbb Xbc
    obtain ⟨hne9, hne8, hne7⟩ := hne9
    refine tree_one rfl ?_
    refine esetL (vs := [.int .i64 a.x, .int .i64 a.y, .int .i64 a.z, .int .i64 a.q, .slice a.A a.n a.c]) rk_sv rfl rfl Xba rfl rfl (by simp [Value.oneCell']) ?_
    intro V1 Yba B9 hc9 hf9
    replace BT9 := BT9.trans (B9.mono lba)
    replace Xbb := Xbb.keep (by omega) hc9 hf9
    replace Xbc := Xbc.keep (by omega) hc9 hf9
    replace Xba := Yba
    clear B9 hc9 hf9
    refine ⟨BT9, ?_⟩
    refine tree_one rfl ?_
    refine esetL (vs := [.int .i64 b.x, .int .i64 b.y, .int .i64 b.z, .int .i64 b.q, .slice b.A b.n b.c]) rk_sv rfl rfl Xbb rfl rfl (by simp [Value.oneCell']) ?_
    intro V2 Ybb B9 hc9 hf9
    replace BT9 := BT9.trans (B9.mono lbb)
    replace Xba := Xba.keep (by omega) hc9 hf9
    replace Xbc := Xbc.keep (by omega) hc9 hf9
    replace Xbb := Ybb
    clear B9 hc9 hf9
    refine ⟨BT9, ?_⟩
    refine tree_one rfl ?_
    refine esetL (vs := [.int .i64 c.x, .int .i64 c.y, .int .i64 c.z, .int .i64 c.q, .slice c.A c.n c.c]) rk_sv rfl rfl Xbc rfl rfl (by simp [Value.oneCell']) ?_
    intro V3 Ybc B9 hc9 hf9
    replace BT9 := BT9.trans (B9.mono lbc)
    replace Xba := Xba.keep (by omega) hc9 hf9
    replace Xbb := Xbb.keep (by omega) hc9 hf9
    replace Xbc := Ybc
    clear B9 hc9 hf9
    refine ⟨BT9, ?_⟩
    refine tree_nil ?_
    replace Esv_0 := rangeAt_on Esv_0 (BT9)
    replace Esv_1 := rangeAt_on Esv_1 (BT9)
    replace Esv_2 := rangeAt_on Esv_2 (BT9)
    replace BB := bon BB BT9
    clear BT9
    have a0 := Xba.cell (i := 0) rfl
    have a1 := Xba.cell (i := 1) rfl
    have b0 := Xbb.cell (i := 0) rfl
    have b1 := Xbb.cell (i := 1) rfl
    have c0 := Xbc.cell (i := 0) rfl
    have c1 := Xbc.cell (i := 1) rfl
    clear Xba Xbb Xbc Esv_0 Esv_1 Esv_2
    go_wp2_with fail
    go_simp
    refine wp_region_mix0 (af := ?afrc) 28 (by kernel_rfl) (by kernel_rfl) (by kernel_rfl) ?h1rc ?h2rc
    case h1rc =>
      intro U9 BU9
      simp only [List.take_succ_cons, List.take_zero]
      replace a0 := cell_below (BU9) a0
      replace a1 := cell_below (BU9) a1
      replace b0 := cell_below (BU9) b0
      replace b1 := cell_below (BU9) b1
      replace c0 := cell_below (BU9) c0
      replace c1 := cell_below (BU9) c1
      have k_a0 := cell_regrown a0
      have k_a1 := cell_regrown a1
      have k_b0 := cell_regrown b0
      have k_b1 := cell_regrown b1
      have k_c0 := cell_regrown c0
      have k_c1 := cell_regrown c1
      repeat (first | ((try simp only [List.getElem_toArray, List.getElem_cons_succ, List.getElem_cons_zero]); go_big_quiet_step (fail)) | ((try simp only [List.getElem_toArray, List.getElem_cons_succ, List.getElem_cons_zero]); quiet_step (fail)))
      refine wpQuiet_nil ?_
      rfl
    intro  V0  BT9 
    refine tree_one rfl ?_
    refine wpList_assignL ?_
    refine ⟨BT9, ?_⟩
    refine tree_one rfl ?_
    refine wpList_assignL ?_
    refine ⟨BT9, ?_⟩
    refine tree_one rfl ?_
    refine wpList_assignL ?_
    refine ⟨BT9, ?_⟩
    refine tree_one rfl ?_
    refine wpList_assignL ?_
    refine ⟨BT9, ?_⟩
    refine tree_nil ?_
    replace a0 := cell_below (BT9) a0
    replace a1 := cell_below (BT9) a1
    replace b0 := cell_below (BT9) b0
    replace b1 := cell_below (BT9) b1
    replace c0 := cell_below (BT9) c0
    replace c1 := cell_below (BT9) c1
    replace BB := bon BB BT9
    clear BT9
    go_simp
    go_wp2
    exact bodyPost_ret (by simp [results, Try.results34, go_sem]) rfl ⟨rfl, BB⟩

theorem rbounds_at (a b c : SV) (p : Int) (f : Bool) (v : Value) (h : bds a b c = v) (w : World) : Calls Try.prog 34 #[.agg #[.int .i64 a.x, .int .i64 a.y, .int .i64 a.z, .int .i64 a.q, .slice a.A a.n a.c, .int .i64 b.x, .int .i64 b.y, .int .i64 b.z, .int .i64 b.q, .slice b.A b.n b.c, .int .i64 c.x, .int .i64 c.y, .int .i64 c.z, .int .i64 c.q, .slice c.A c.n c.c, .int .i64 p, .bool f]] w fun e w' => e = .returned v ∧ Below w.heap.size w w' := h ▸ rbounds_b a b c p f w

end Go.Proofs.Ytaeocpjddhghdaa
