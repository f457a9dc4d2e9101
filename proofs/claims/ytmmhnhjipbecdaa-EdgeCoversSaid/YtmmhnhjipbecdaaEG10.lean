/- What Bounds returns; the walk of EdgeRotation. -/
import Derived.Test.YtmmhnhjipbecdaaEG9
import Derived.Laws.Cover1
namespace Go.Proofs.Ytmmhnhjipbecdaa
set_option linter.unusedSimpArgs false
open Go.RowKit Go.Sort Go.ChangeShapes Go.WideShapes
set_option linter.unusedVariables false

def bds (a b c : SV) : Value := if trv a b c = true then .tuple #[.int .i64 (min3 a.x b.x c.x), .int .i64 (min3 a.y b.y c.y), .int .i64 (max3 a.x b.x c.x), .int .i64 (max3 a.y b.y c.y)] else .tuple #[.int .i64 0, .int .i64 0, .int .i64 0, .int .i64 0]

theorem min_is3 (x y z : Int) (ts : Array TypeId) (t : TypeId) (w : World) : (Builtin.min_ ts t #[.int .i64 x, .int .i64 y, .int .i64 z]).run Try.prog w = .ok (.int .i64 (min3 x y z)) w := by
  rw [run_min_int3]
  congr 2
  unfold min3
  split <;> split <;> omega

theorem max_is3 (x y z : Int) (ts : Array TypeId) (t : TypeId) (w : World) : (Builtin.max_ ts t #[.int .i64 x, .int .i64 y, .int .i64 z]).run Try.prog w = .ok (.int .i64 (max3 x y z)) w := by
  rw [run_max_int3]
  congr 2
  unfold max3
  split <;> split <;> omega

set_option maxRecDepth 100000 in
set_option maxHeartbeats 2000000 in
theorem bounds_b (a b c : SV) (p : Int) (f : Bool) (w : World) : Calls Try.prog 20 #[.agg #[.int .i64 a.x, .int .i64 a.y, .int .i64 a.z, .int .i64 a.q, .slice a.A a.n a.c, .int .i64 b.x, .int .i64 b.y, .int .i64 b.z, .int .i64 b.q, .slice b.A b.n b.c, .int .i64 c.x, .int .i64 c.y, .int .i64 c.z, .int .i64 c.q, .slice c.A c.n c.c, .int .i64 p, .bool f]] w fun e w' => e = .returned (bds a b c) ∧ Below w.heap.size w w' := by
  unfold bds
  have mn := fun x y z ts t w => min_is3 x y z ts t w
  have mx := fun x y z ts t w => max_is3 x y z ts t w
  have BB := box_below w #[.int .i64 a.x, .int .i64 a.y, .int .i64 a.z, .int .i64 a.q, .slice a.A a.n a.c, .int .i64 b.x, .int .i64 b.y, .int .i64 b.z, .int .i64 b.q, .slice b.A b.n b.c, .int .i64 c.x, .int .i64 c.y, .int .i64 c.z, .int .i64 c.q, .slice c.A c.n c.c, .int .i64 p, .bool f] 34
  have X0 := EBox.made w #[.int .i64 a.x, .int .i64 a.y, .int .i64 a.z, .int .i64 a.q, .slice a.A a.n a.c, .int .i64 b.x, .int .i64 b.y, .int .i64 b.z, .int .i64 b.q, .slice b.A b.n b.c, .int .i64 c.x, .int .i64 c.y, .int .i64 c.z, .int .i64 c.q, .slice c.A c.n c.c, .int .i64 p, .bool f] 34
  have Etr := range_cut X0.1 0 17
  have Esv_0 := range_cut X0.1 0 5
  have Esv_1 := range_cut X0.1 5 5
  have Esv_2 := range_cut X0.1 10 5
  simp only [List.drop_succ_cons, List.drop_zero, List.take_succ_cons, List.take_zero, Nat.zero_add] at Etr Esv_0 Esv_1 Esv_2
  clear X0
  cases hv : trv a b c
  · have CV := Lib.hid (fun W => valid_at a b c p f false hv W)
    clear hv
    go_enter Try.func20, Try.ntmps20
    go_wp2_with (first
    | ((with_reducible refine eload17L rk_tr Etr ?_ ?_); focus rfl)
    | (go_at_call 22; (with_reducible refine (CV.out _).mono ?_); rintro _ W3 ⟨rfl, B⟩; replace BB := bon BB B; skip; clear B))
    exact bodyPost_ret (by simp [results, Try.results20, go_sem]) rfl ⟨rfl, BB⟩
  · have CV := Lib.hid (fun W => valid_at a b c p f true hv W)
    clear hv
    go_enter Try.func20, Try.ntmps20
    go_wp2_with (first
    | ((with_reducible refine eload17L rk_tr Etr ?_ ?_); focus rfl)
    | (go_at_call 22; (with_reducible refine (CV.out _).mono ?_); rintro _ W3 ⟨rfl, B⟩; replace BB := bon BB B; replace Esv_0 := rangeAt_on Esv_0 (B); replace Esv_1 := rangeAt_on Esv_1 (B); replace Esv_2 := rangeAt_on Esv_2 (B); clear B))
    refine wp_region_mix3 (af := ?afb) 9 (by kernel_rfl) zero_sv zero_sv zero_sv (Nat.succ_pos _) (Nat.succ_pos _) (Nat.succ_pos _) rfl (by kernel_rfl) (by kernel_rfl) ?h1b ?h2b
    case h1b =>
      intro U9 BU9
      simp only [List.take_succ_cons, List.take_zero]
      replace Esv_0 := rangeAt_on Esv_0 (BU9)
      replace Esv_1 := rangeAt_on Esv_1 (BU9)
      replace Esv_2 := rangeAt_on Esv_2 (BU9)
      repeat (first | ((try simp only [List.getElem_toArray, List.getElem_cons_succ, List.getElem_cons_zero]); go_big_quiet_want; refine quiet_eload _ _ rfl rk_sv rfl (fun W hW => rangeAt_on Esv_0 (below_regrown' hW)) rfl ?_; go_simp; go_big_quiet_on) | ((try simp only [List.getElem_toArray, List.getElem_cons_succ, List.getElem_cons_zero]); go_big_quiet_want; refine quiet_eload _ _ rfl rk_sv rfl (fun W hW => rangeAt_on Esv_1 (below_regrown' hW)) rfl ?_; go_simp; go_big_quiet_on) | ((try simp only [List.getElem_toArray, List.getElem_cons_succ, List.getElem_cons_zero]); go_big_quiet_want; refine quiet_eload _ _ rfl rk_sv rfl (fun W hW => rangeAt_on Esv_2 (below_regrown' hW)) rfl ?_; go_simp; go_big_quiet_on) | ((try simp only [List.getElem_toArray, List.getElem_cons_succ, List.getElem_cons_zero]); go_big_quiet_step (fail)) | ((try simp only [List.getElem_toArray, List.getElem_cons_succ, List.getElem_cons_zero]); quiet_step (fail)))
      refine wpQuiet_nil ?_
      rfl
    intro ba bb bc V0 hne9 lba lbb lbc BT9 Xba Xbb Xbc
    obtain ⟨hne9, hne8, hne7⟩ := hne9
    refine tree_one rfl ?_
    refine esetL (vs := [.int .i64 a.x, .int .i64 a.y, .int .i64 a.z, .int .i64 a.q, .slice a.A a.n a.c]) rk_sv rfl rfl Xba rfl rfl (by simp [Value.oneCell']) ?_
    intro V1 Yba B9 hc9 hf9
    replace BT9 := BT9.trans (B9.mono lba)
    replace Xbb := Xbb.keep (by omega) hc9 hf9
    replace Xbc := Xbc.keep (by omega) hc9 hf9
    replace Xba := Yba
    clear B9 hc9 hf9
    refine ⟨BT9, ?_⟩
    refine tree_one rfl ?_
    refine esetL (vs := [.int .i64 b.x, .int .i64 b.y, .int .i64 b.z, .int .i64 b.q, .slice b.A b.n b.c]) rk_sv rfl rfl Xbb rfl rfl (by simp [Value.oneCell']) ?_
    intro V2 Ybb B9 hc9 hf9
    replace BT9 := BT9.trans (B9.mono lbb)
    replace Xba := Xba.keep (by omega) hc9 hf9
    replace Xbc := Xbc.keep (by omega) hc9 hf9
    replace Xbb := Ybb
    clear B9 hc9 hf9
    refine ⟨BT9, ?_⟩
    refine tree_one rfl ?_
    refine esetL (vs := [.int .i64 c.x, .int .i64 c.y, .int .i64 c.z, .int .i64 c.q, .slice c.A c.n c.c]) rk_sv rfl rfl Xbc rfl rfl (by simp [Value.oneCell']) ?_
    intro V3 Ybc B9 hc9 hf9
    replace BT9 := BT9.trans (B9.mono lbc)
    replace Xba := Xba.keep (by omega) hc9 hf9
    replace Xbb := Xbb.keep (by omega) hc9 hf9
    replace Xbc := Ybc
    clear B9 hc9 hf9
    refine ⟨BT9, ?_⟩
    refine tree_nil ?_
    replace Esv_0 := rangeAt_on Esv_0 (BT9)
    replace Esv_1 := rangeAt_on Esv_1 (BT9)
    replace Esv_2 := rangeAt_on Esv_2 (BT9)
    replace BB := bon BB BT9
    clear BT9
    have a0 := Xba.cell (i := 0) rfl
    have a1 := Xba.cell (i := 1) rfl
    have b0 := Xbb.cell (i := 0) rfl
    have b1 := Xbb.cell (i := 1) rfl
    have c0 := Xbc.cell (i := 0) rfl
    have c1 := Xbc.cell (i := 1) rfl
    clear Xba Xbb Xbc Esv_0 Esv_1 Esv_2
    go_wp2_with fail
    go_simp
    refine wp_region_mix0 (af := ?afc) 28 (by kernel_rfl) (by kernel_rfl) (by kernel_rfl) ?h1c ?h2c
    case h1c =>
      intro U9 BU9
      simp only [List.take_succ_cons, List.take_zero]
      replace a0 := cell_below (BU9) a0
      replace a1 := cell_below (BU9) a1
      replace b0 := cell_below (BU9) b0
      replace b1 := cell_below (BU9) b1
      replace c0 := cell_below (BU9) c0
      replace c1 := cell_below (BU9) c1
      have k_a0 := cell_regrown a0
      have k_a1 := cell_regrown a1
      have k_b0 := cell_regrown b0
      have k_b1 := cell_regrown b1
      have k_c0 := cell_regrown c0
      have k_c1 := cell_regrown c1
      repeat (first | ((try simp only [List.getElem_toArray, List.getElem_cons_succ, List.getElem_cons_zero]); go_big_quiet_step (fail)) | ((try simp only [List.getElem_toArray, List.getElem_cons_succ, List.getElem_cons_zero]); quiet_step (fail)))
      refine wpQuiet_nil ?_
      rfl
    intro  V0  BT9 
    refine tree_one rfl ?_
    refine wpList_assignL ?_
    refine ⟨BT9, ?_⟩
    refine tree_one rfl ?_
    refine wpList_assignL ?_
    refine ⟨BT9, ?_⟩
    refine tree_one rfl ?_
    refine wpList_assignL ?_
    refine ⟨BT9, ?_⟩
    refine tree_one rfl ?_
    refine wpList_assignL ?_
    refine ⟨BT9, ?_⟩
    refine tree_nil ?_
    replace a0 := cell_below (BT9) a0
    replace a1 := cell_below (BT9) a1
    replace b0 := cell_below (BT9) b0
    replace b1 := cell_below (BT9) b1
    replace c0 := cell_below (BT9) c0
    replace c1 := cell_below (BT9) c1
    replace BB := bon BB BT9
    clear BT9
    go_simp
    go_wp2
    exact bodyPost_ret (by simp [results, Try.results20, go_sem]) rfl ⟨rfl, BB⟩

theorem bounds_at (a b c : SV) (p : Int) (f : Bool) (v : Value) (h : bds a b c = v) (w : World) : Calls Try.prog 20 #[.agg #[.int .i64 a.x, .int .i64 a.y, .int .i64 a.z, .int .i64 a.q, .slice a.A a.n a.c, .int .i64 b.x, .int .i64 b.y, .int .i64 b.z, .int .i64 b.q, .slice b.A b.n b.c, .int .i64 c.x, .int .i64 c.y, .int .i64 c.z, .int .i64 c.q, .slice c.A c.n c.c, .int .i64 p, .bool f]] w fun e w' => e = .returned v ∧ Below w.heap.size w w' := h ▸ bounds_b a b c p f w

end Go.Proofs.Ytmmhnhjipbecdaa
