/- The walk of EdgeSplit. -/
import Derived.Test.YtmmhnhjipbecdaaEG8
namespace Go.Proofs.Ytmmhnhjipbecdaa
set_option linter.unusedSimpArgs false
open Go.RowKit Go.Sort Go.ChangeShapes Go.WideShapes
set_option linter.unusedVariables false

set_option maxRecDepth 100000 in
set_option maxHeartbeats 2500000 in
theorem split_case (a b c : SV) (p : Int) (f : Bool) (mx my px py e : Int) (t u v x y : Bool) (ht : trv ⟨a.x, a.y, 0, 0, none, 0, 0⟩ ⟨b.x, b.y, 0, 0, none, 0, 0⟩ ⟨c.x, c.y, 0, 0, none, 0, 0⟩ = t) (hu : trv ⟨a.x, a.y, 0, 0, none, 0, 0⟩ ⟨b.x, b.y, 0, 0, none, 0, 0⟩ ⟨mx, my, 0, 0, none, 0, 0⟩ = u) (hv : trv ⟨a.x, a.y, 0, 0, none, 0, 0⟩ ⟨mx, my, 0, 0, none, 0, 0⟩ ⟨c.x, c.y, 0, 0, none, 0, 0⟩ = v) (he : efn b.x b.y c.x c.y mx my = e)
    (hx : cov ⟨a.x, a.y, 0, 0, none, 0, 0⟩ ⟨b.x, b.y, 0, 0, none, 0, 0⟩ ⟨mx, my, 0, 0, none, 0, 0⟩ px py = x) (hy : cov ⟨a.x, a.y, 0, 0, none, 0, 0⟩ ⟨mx, my, 0, 0, none, 0, 0⟩ ⟨c.x, c.y, 0, 0, none, 0, 0⟩ px py = y) (h : t = true → u = true → v = true → e = 0 → cov ⟨a.x, a.y, 0, 0, none, 0, 0⟩ ⟨b.x, b.y, 0, 0, none, 0, 0⟩ ⟨c.x, c.y, 0, 0, none, 0, 0⟩ px py = (x || y) ∧ (x && y) = false) (w : World) : Calls Try.prog 8 #[.agg #[.int .i64 a.x, .int .i64 a.y, .int .i64 a.z, .int .i64 a.q, .slice a.A a.n a.c, .int .i64 b.x, .int .i64 b.y, .int .i64 b.z, .int .i64 b.q, .slice b.A b.n b.c, .int .i64 c.x, .int .i64 c.y, .int .i64 c.z, .int .i64 c.q, .slice c.A c.n c.c, .int .i64 p, .bool f], .agg #[.int .i64 mx, .int .i64 my], .agg #[.int .i64 px, .int .i64 py]] w fun e w' => e = .returned (.bool true) ∧ Below w.heap.size w w' := by
  have BB := box_below w #[.int .i64 a.x, .int .i64 a.y, .int .i64 a.z, .int .i64 a.q, .slice a.A a.n a.c, .int .i64 b.x, .int .i64 b.y, .int .i64 b.z, .int .i64 b.q, .slice b.A b.n b.c, .int .i64 c.x, .int .i64 c.y, .int .i64 c.z, .int .i64 c.q, .slice c.A c.n c.c, .int .i64 p, .bool f] 34
  have X0 := EBox.made w #[.int .i64 a.x, .int .i64 a.y, .int .i64 a.z, .int .i64 a.q, .slice a.A a.n a.c, .int .i64 b.x, .int .i64 b.y, .int .i64 b.z, .int .i64 b.q, .slice b.A b.n b.c, .int .i64 c.x, .int .i64 c.y, .int .i64 c.z, .int .i64 c.q, .slice c.A c.n c.c, .int .i64 p, .bool f] 34
  have hsz1 : (w.alloc (.cells #[.int .i64 a.x, .int .i64 a.y, .int .i64 a.z, .int .i64 a.q, .slice a.A a.n a.c, .int .i64 b.x, .int .i64 b.y, .int .i64 b.z, .int .i64 b.q, .slice b.A b.n b.c, .int .i64 c.x, .int .i64 c.y, .int .i64 c.z, .int .i64 c.q, .slice c.A c.n c.c, .int .i64 p, .bool f] 34)).heap.size = w.heap.size + 1 := by simp
  have X1 := EBox.made (w.alloc (.cells #[.int .i64 a.x, .int .i64 a.y, .int .i64 a.z, .int .i64 a.q, .slice a.A a.n a.c, .int .i64 b.x, .int .i64 b.y, .int .i64 b.z, .int .i64 b.q, .slice b.A b.n b.c, .int .i64 c.x, .int .i64 c.y, .int .i64 c.z, .int .i64 c.q, .slice c.A c.n c.c, .int .i64 p, .bool f] 34)) #[.int .i64 mx, .int .i64 my] 22
  rw [hsz1] at X1
  replace X0 := X0.on (Nat.succ_pos _) (box_below (w.alloc (.cells #[.int .i64 a.x, .int .i64 a.y, .int .i64 a.z, .int .i64 a.q, .slice a.A a.n a.c, .int .i64 b.x, .int .i64 b.y, .int .i64 b.z, .int .i64 b.q, .slice b.A b.n b.c, .int .i64 c.x, .int .i64 c.y, .int .i64 c.z, .int .i64 c.q, .slice c.A c.n c.c, .int .i64 p, .bool f] 34)) #[.int .i64 mx, .int .i64 my] 22)
  replace BB := bon BB (box_below (w.alloc (.cells #[.int .i64 a.x, .int .i64 a.y, .int .i64 a.z, .int .i64 a.q, .slice a.A a.n a.c, .int .i64 b.x, .int .i64 b.y, .int .i64 b.z, .int .i64 b.q, .slice b.A b.n b.c, .int .i64 c.x, .int .i64 c.y, .int .i64 c.z, .int .i64 c.q, .slice c.A c.n c.c, .int .i64 p, .bool f] 34)) #[.int .i64 mx, .int .i64 my] 22)
  clear hsz1
  have hsz2 : ((w.alloc (.cells #[.int .i64 a.x, .int .i64 a.y, .int .i64 a.z, .int .i64 a.q, .slice a.A a.n a.c, .int .i64 b.x, .int .i64 b.y, .int .i64 b.z, .int .i64 b.q, .slice b.A b.n b.c, .int .i64 c.x, .int .i64 c.y, .int .i64 c.z, .int .i64 c.q, .slice c.A c.n c.c, .int .i64 p, .bool f] 34)).alloc (.cells #[.int .i64 mx, .int .i64 my] 22)).heap.size = w.heap.size + 2 := by simp
  have X2 := EBox.made ((w.alloc (.cells #[.int .i64 a.x, .int .i64 a.y, .int .i64 a.z, .int .i64 a.q, .slice a.A a.n a.c, .int .i64 b.x, .int .i64 b.y, .int .i64 b.z, .int .i64 b.q, .slice b.A b.n b.c, .int .i64 c.x, .int .i64 c.y, .int .i64 c.z, .int .i64 c.q, .slice c.A c.n c.c, .int .i64 p, .bool f] 34)).alloc (.cells #[.int .i64 mx, .int .i64 my] 22)) #[.int .i64 px, .int .i64 py] 22
  rw [hsz2] at X2
  replace X0 := X0.on (Nat.succ_pos _) (box_below ((w.alloc (.cells #[.int .i64 a.x, .int .i64 a.y, .int .i64 a.z, .int .i64 a.q, .slice a.A a.n a.c, .int .i64 b.x, .int .i64 b.y, .int .i64 b.z, .int .i64 b.q, .slice b.A b.n b.c, .int .i64 c.x, .int .i64 c.y, .int .i64 c.z, .int .i64 c.q, .slice c.A c.n c.c, .int .i64 p, .bool f] 34)).alloc (.cells #[.int .i64 mx, .int .i64 my] 22)) #[.int .i64 px, .int .i64 py] 22)
  replace X1 := X1.on (Nat.succ_pos _) (box_below ((w.alloc (.cells #[.int .i64 a.x, .int .i64 a.y, .int .i64 a.z, .int .i64 a.q, .slice a.A a.n a.c, .int .i64 b.x, .int .i64 b.y, .int .i64 b.z, .int .i64 b.q, .slice b.A b.n b.c, .int .i64 c.x, .int .i64 c.y, .int .i64 c.z, .int .i64 c.q, .slice c.A c.n c.c, .int .i64 p, .bool f] 34)).alloc (.cells #[.int .i64 mx, .int .i64 my] 22)) #[.int .i64 px, .int .i64 py] 22)
  replace BB := bon BB (box_below ((w.alloc (.cells #[.int .i64 a.x, .int .i64 a.y, .int .i64 a.z, .int .i64 a.q, .slice a.A a.n a.c, .int .i64 b.x, .int .i64 b.y, .int .i64 b.z, .int .i64 b.q, .slice b.A b.n b.c, .int .i64 c.x, .int .i64 c.y, .int .i64 c.z, .int .i64 c.q, .slice c.A c.n c.c, .int .i64 p, .bool f] 34)).alloc (.cells #[.int .i64 mx, .int .i64 my] 22)) #[.int .i64 px, .int .i64 py] 22)
  clear hsz2
  have v0x := X0.cell (i := 0) rfl
  have v0y := X0.cell (i := 1) rfl
  have v1x := X0.cell (i := 5) rfl
  have v1y := X0.cell (i := 6) rfl
  have v2x := X0.cell (i := 10) rfl
  have v2y := X0.cell (i := 11) rfl
  have c0 := X1.cell (i := 0) rfl
  have c1 := X1.cell (i := 1) rfl
  have Ep2_m := range_cut X1.1 0 2
  simp only [List.drop_succ_cons, List.drop_zero, List.take_succ_cons, List.take_zero, Nat.zero_add] at Ep2_m
  have d0 := X2.cell (i := 0) rfl
  have d1 := X2.cell (i := 1) rfl
  clear X1 X2
  have XT := X0
  clear X0
  have CT := Lib.hid (fun W => triangle_b a.x a.y b.x b.y c.x c.y W)
  have CU := Lib.hid (fun W => triangle_b a.x a.y b.x b.y mx my W)
  have CW := Lib.hid (fun W => triangle_b a.x a.y mx my c.x c.y W)
  have vt' := fun W => valid_at ⟨a.x, a.y, 0, 0, none, 0, 0⟩ ⟨b.x, b.y, 0, 0, none, 0, 0⟩ ⟨c.x, c.y, 0, 0, none, 0, 0⟩ 0 false t ht W
  dsimp only at vt'
  have VT := Lib.hid vt'
  clear vt'
  have vu' := fun W => valid_at ⟨a.x, a.y, 0, 0, none, 0, 0⟩ ⟨b.x, b.y, 0, 0, none, 0, 0⟩ ⟨mx, my, 0, 0, none, 0, 0⟩ 0 false u hu W
  dsimp only at vu'
  have VU := Lib.hid vu'
  clear vu'
  have vv' := fun W => valid_at ⟨a.x, a.y, 0, 0, none, 0, 0⟩ ⟨mx, my, 0, 0, none, 0, 0⟩ ⟨c.x, c.y, 0, 0, none, 0, 0⟩ 0 false v hv W
  dsimp only at vv'
  have VV := Lib.hid vv'
  clear vv'
  have ku' := fun W => cov_at ⟨a.x, a.y, 0, 0, none, 0, 0⟩ ⟨b.x, b.y, 0, 0, none, 0, 0⟩ ⟨mx, my, 0, 0, none, 0, 0⟩ 0 false px py x hx W
  dsimp only at ku'
  have KU := Lib.hid ku'
  clear ku'
  have kv' := fun W => cov_at ⟨a.x, a.y, 0, 0, none, 0, 0⟩ ⟨mx, my, 0, 0, none, 0, 0⟩ ⟨c.x, c.y, 0, 0, none, 0, 0⟩ 0 false px py y hy W
  dsimp only at kv'
  have KV := Lib.hid kv'
  clear kv'
  have CE := Lib.hid (fun W => efn_at b.x b.y c.x c.y mx my e he W)
  have H := Lib.hid h
  clear ht hu hv he hx hy h
  go_enter Try.func8, Try.ntmps8
  go_wp2_with fail
  have xt0 := XT.lt (Nat.succ_pos _)
  refine wp_region_mix3 (fl := true) (af := ?af1) 27 (by kernel_rfl) zero_p2 zero_p2 zero_p2 (Nat.succ_pos _) (Nat.succ_pos _) (Nat.succ_pos _) rfl (by kernel_rfl) (by kernel_rfl) ?h11 ?h21
  case h11 =>
    intro U9 BU9
    simp only [List.take_succ_cons, List.take_zero]
    replace Ep2_m := rangeAt_on Ep2_m (BU9)
    replace v0x := cell_below (BU9) v0x
    replace v0y := cell_below (BU9) v0y
    replace v1x := cell_below (BU9) v1x
    replace v1y := cell_below (BU9) v1y
    replace v2x := cell_below (BU9) v2x
    replace v2y := cell_below (BU9) v2y
    replace c0 := cell_below (BU9) c0
    replace c1 := cell_below (BU9) c1
    replace d0 := cell_below (BU9) d0
    replace d1 := cell_below (BU9) d1
    replace XT := XT.on (Nat.succ_pos _) (BU9)
    have k_v0x := cell_regrown v0x
    have k_v0y := cell_regrown v0y
    have k_v1x := cell_regrown v1x
    have k_v1y := cell_regrown v1y
    have k_v2x := cell_regrown v2x
    have k_v2y := cell_regrown v2y
    have k_c0 := cell_regrown c0
    have k_c1 := cell_regrown c1
    have k_d0 := cell_regrown d0
    have k_d1 := cell_regrown d1
    repeat (first | ((try simp only [List.getElem_toArray, List.getElem_cons_succ, List.getElem_cons_zero]); go_big_quiet_want; refine quiet_eload _ _ rfl rk_p2 rfl (fun W hW => rangeAt_on Ep2_m (below_regrown' hW)) rfl ?_; go_simp; go_big_quiet_on) | ((try simp only [List.getElem_toArray, List.getElem_cons_succ, List.getElem_cons_zero]); go_big_quiet_step (fail)) | ((try simp only [List.getElem_toArray, List.getElem_cons_succ, List.getElem_cons_zero]); quiet_step (fail)))
    refine wpQuiet_nil ?_
    rfl
  intro b7 b8 b9 V0 hne9 lb7 lb8 lb9 BT9 Xb7 Xb8 Xb9
  obtain ⟨hne9, hne8, hne7⟩ := hne9
  refine tree_one rfl ?_
  refine esetL (vs := [.int .i64 a.x, .int .i64 a.y]) rk_p2 rfl rfl Xb7 rfl rfl (by simp [Value.oneCell']) ?_
  intro V1 Yb7 B9 hc9 hf9
  replace BT9 := BT9.trans (B9.mono lb7)
  replace Xb8 := Xb8.keep (by omega) hc9 hf9
  replace Xb9 := Xb9.keep (by omega) hc9 hf9
  replace Xb7 := Yb7
  clear B9 hc9 hf9
  refine ⟨fun _ => BT9, ?_⟩
  refine tree_one rfl ?_
  refine esetL (vs := [.int .i64 b.x, .int .i64 b.y]) rk_p2 rfl rfl Xb8 rfl rfl (by simp [Value.oneCell']) ?_
  intro V2 Yb8 B9 hc9 hf9
  replace BT9 := BT9.trans (B9.mono lb8)
  replace Xb7 := Xb7.keep (by omega) hc9 hf9
  replace Xb9 := Xb9.keep (by omega) hc9 hf9
  replace Xb8 := Yb8
  clear B9 hc9 hf9
  refine ⟨fun _ => BT9, ?_⟩
  refine tree_one rfl ?_
  refine esetL (vs := [.int .i64 c.x, .int .i64 c.y]) rk_p2 rfl rfl Xb9 rfl rfl (by simp [Value.oneCell']) ?_
  intro V3 Yb9 B9 hc9 hf9
  replace BT9 := BT9.trans (B9.mono lb9)
  replace Xb7 := Xb7.keep (by omega) hc9 hf9
  replace Xb8 := Xb8.keep (by omega) hc9 hf9
  replace Xb9 := Yb9
  clear B9 hc9 hf9
  refine ⟨fun _ => BT9, ?_⟩
  refine tree_nil ?_
  replace Ep2_m := rangeAt_on Ep2_m (BT9)
  replace v0x := cell_below (BT9) v0x
  replace v0y := cell_below (BT9) v0y
  replace v1x := cell_below (BT9) v1x
  replace v1y := cell_below (BT9) v1y
  replace v2x := cell_below (BT9) v2x
  replace v2y := cell_below (BT9) v2y
  replace c0 := cell_below (BT9) c0
  replace c1 := cell_below (BT9) c1
  replace d0 := cell_below (BT9) d0
  replace d1 := cell_below (BT9) d1
  replace XT := XT.on (Nat.succ_pos _) (BT9)
  replace BB := bon BB BT9
  clear BT9
  have e0 := Xb8.cell (i := 0) rfl
  have e1 := Xb8.cell (i := 1) rfl
  have f0 := Xb9.cell (i := 0) rfl
  have f1 := Xb9.cell (i := 1) rfl
  have Ep2_7 := range_cut Xb7.1 0 2
  have Ep2_8 := range_cut Xb8.1 0 2
  have Ep2_9 := range_cut Xb9.1 0 2
  simp only [List.drop_zero, List.take_succ_cons, List.take_zero, Nat.zero_add] at Ep2_7 Ep2_8 Ep2_9
  have k8 : w.heap.size < b8 := Nat.lt_of_lt_of_le (xt0) lb8
  have k9 : w.heap.size < b9 := Nat.lt_of_lt_of_le (xt0) lb9
  clear Xb7 Xb8 Xb9 v0x v0y v1x v1y v2x v2y lb7 lb8 lb9 hne7 hne8 hne9
  go_wp2_with fail
  go_simp
  have xt := XT.lt (Nat.succ_pos _)
  have n1 : w.heap.size + 1 < _ := block_lt_of_cell c0
  have n2 : w.heap.size + 2 < _ := block_lt_of_cell d0
  have n3 : b8 < _ := block_lt_of_cell e0
  have n4 : b9 < _ := block_lt_of_cell f0
  refine wp_region_mix2 (fl := false) (af := ?af2) 12 (by kernel_rfl) zero_tr zero_tr (Nat.succ_pos _) (Nat.succ_pos _) rfl (by kernel_rfl) (by kernel_rfl) ?h12 ?h22
  case h12 =>
    intro U9 BU9
    simp only [List.take_succ_cons, List.take_zero]
    replace Ep2_7 := rangeAt_on Ep2_7 (BU9)
    replace Ep2_8 := rangeAt_on Ep2_8 (BU9)
    replace Ep2_9 := rangeAt_on Ep2_9 (BU9)
    replace Ep2_m := rangeAt_on Ep2_m (BU9)
    replace c0 := cell_below (BU9) c0
    replace c1 := cell_below (BU9) c1
    replace d0 := cell_below (BU9) d0
    replace d1 := cell_below (BU9) d1
    replace e0 := cell_below (BU9) e0
    replace e1 := cell_below (BU9) e1
    replace f0 := cell_below (BU9) f0
    replace f1 := cell_below (BU9) f1
    replace XT := XT.on (Nat.succ_pos _) (BU9)
    have k_c0 := cell_regrown c0
    have k_c1 := cell_regrown c1
    have k_d0 := cell_regrown d0
    have k_d1 := cell_regrown d1
    have k_e0 := cell_regrown e0
    have k_e1 := cell_regrown e1
    have k_f0 := cell_regrown f0
    have k_f1 := cell_regrown f1
    repeat (first | ((try simp only [List.getElem_toArray, List.getElem_cons_succ, List.getElem_cons_zero]); go_big_quiet_want; refine quiet_eload _ _ rfl rk_p2 rfl (fun W hW => rangeAt_on Ep2_7 (below_regrown' hW)) rfl ?_; go_simp; go_big_quiet_on) | ((try simp only [List.getElem_toArray, List.getElem_cons_succ, List.getElem_cons_zero]); go_big_quiet_want; refine quiet_eload _ _ rfl rk_p2 rfl (fun W hW => rangeAt_on Ep2_8 (below_regrown' hW)) rfl ?_; go_simp; go_big_quiet_on) | ((try simp only [List.getElem_toArray, List.getElem_cons_succ, List.getElem_cons_zero]); go_big_quiet_want; refine quiet_eload _ _ rfl rk_p2 rfl (fun W hW => rangeAt_on Ep2_9 (below_regrown' hW)) rfl ?_; go_simp; go_big_quiet_on) | ((try simp only [List.getElem_toArray, List.getElem_cons_succ, List.getElem_cons_zero]); go_big_quiet_want; refine quiet_eload _ _ rfl rk_p2 rfl (fun W hW => rangeAt_on Ep2_m (below_regrown' hW)) rfl ?_; go_simp; go_big_quiet_on) | ((try simp only [List.getElem_toArray, List.getElem_cons_succ, List.getElem_cons_zero]); go_big_quiet_step ((first | (go_at_call 26; with_reducible exact Calls.regrown_of (CT.out _)) | (go_at_call 26; with_reducible exact Calls.regrown_of (CU.out _)) | (go_at_call 26; with_reducible exact Calls.regrown_of (CW.out _))))) | ((try simp only [List.getElem_toArray, List.getElem_cons_succ, List.getElem_cons_zero]); quiet_step ((first | (go_at_call 26; with_reducible exact Calls.regrown_of (CT.out _)) | (go_at_call 26; with_reducible exact Calls.regrown_of (CU.out _)) | (go_at_call 26; with_reducible exact Calls.regrown_of (CW.out _))))))
    refine wpQuiet_nil ?_
    rfl
  intro bu bv V0 hne9 lbu lbv BT9 Xbu Xbv
  replace Ep2_7 := True.intro
  clear Ep2_7 Ep2_8 Ep2_9 Ep2_m
  replace c0 := cell_below (BT9) c0
  replace c1 := cell_below (BT9) c1
  replace d0 := cell_below (BT9) d0
  replace d1 := cell_below (BT9) d1
  replace e0 := cell_below (BT9) e0
  replace e1 := cell_below (BT9) e1
  replace f0 := cell_below (BT9) f0
  replace f1 := cell_below (BT9) f1
  replace XT := XT.on (Nat.succ_pos _) (BT9)
  replace BB := bon BB BT9
  have mu := Nat.le_trans BT9.size (Nat.le_refl _)
  clear BT9 mu
  refine tree_one rfl ?_
  refine esetL (vs := [.int .i64 a.x, .int .i64 a.y, .int .i64 0, .int .i64 0, .slice none 0 0, .int .i64 b.x, .int .i64 b.y, .int .i64 0, .int .i64 0, .slice none 0 0, .int .i64 c.x, .int .i64 c.y, .int .i64 0, .int .i64 0, .slice none 0 0, .int .i64 0, .bool false]) rk_tr rfl rfl XT rfl rfl (by simp [Value.oneCell']) ?_
  intro V1 YXT B9 hc9 hf9
  replace c0 := (hc9 _ (by simp only; omega)).trans c0
  replace c1 := (hc9 _ (by simp only; omega)).trans c1
  replace d0 := (hc9 _ (by simp only; omega)).trans d0
  replace d1 := (hc9 _ (by simp only; omega)).trans d1
  replace e0 := (hc9 _ (by simp only; omega)).trans e0
  replace e1 := (hc9 _ (by simp only; omega)).trans e1
  replace f0 := (hc9 _ (by simp only; omega)).trans f0
  replace f1 := (hc9 _ (by simp only; omega)).trans f1
  replace Xbu := Xbu.keep (by omega) hc9 hf9
  replace Xbv := Xbv.keep (by omega) hc9 hf9
  replace XT := YXT
  replace BB := BB.trans (B9.mono (by omega))
  clear B9 hc9 hf9
  refine ⟨(fun h => by cases h), ?_⟩
  refine tree_one rfl ?_
  refine esetL (vs := [.int .i64 a.x, .int .i64 a.y, .int .i64 0, .int .i64 0, .slice none 0 0, .int .i64 b.x, .int .i64 b.y, .int .i64 0, .int .i64 0, .slice none 0 0, .int .i64 mx, .int .i64 my, .int .i64 0, .int .i64 0, .slice none 0 0, .int .i64 0, .bool false]) rk_tr rfl rfl Xbu rfl rfl (by simp [Value.oneCell']) ?_
  intro V2 YXbu B9 hc9 hf9
  replace c0 := (hc9 _ (by simp only; omega)).trans c0
  replace c1 := (hc9 _ (by simp only; omega)).trans c1
  replace d0 := (hc9 _ (by simp only; omega)).trans d0
  replace d1 := (hc9 _ (by simp only; omega)).trans d1
  replace e0 := (hc9 _ (by simp only; omega)).trans e0
  replace e1 := (hc9 _ (by simp only; omega)).trans e1
  replace f0 := (hc9 _ (by simp only; omega)).trans f0
  replace f1 := (hc9 _ (by simp only; omega)).trans f1
  replace XT := XT.keep (by omega) hc9 hf9
  replace Xbv := Xbv.keep (by omega) hc9 hf9
  replace Xbu := YXbu
  replace BB := BB.trans (B9.mono (by omega))
  clear B9 hc9 hf9
  refine ⟨(fun h => by cases h), ?_⟩
  refine tree_one rfl ?_
  refine esetL (vs := [.int .i64 a.x, .int .i64 a.y, .int .i64 0, .int .i64 0, .slice none 0 0, .int .i64 mx, .int .i64 my, .int .i64 0, .int .i64 0, .slice none 0 0, .int .i64 c.x, .int .i64 c.y, .int .i64 0, .int .i64 0, .slice none 0 0, .int .i64 0, .bool false]) rk_tr rfl rfl Xbv rfl rfl (by simp [Value.oneCell']) ?_
  intro V3 YXbv B9 hc9 hf9
  replace c0 := (hc9 _ (by simp only; omega)).trans c0
  replace c1 := (hc9 _ (by simp only; omega)).trans c1
  replace d0 := (hc9 _ (by simp only; omega)).trans d0
  replace d1 := (hc9 _ (by simp only; omega)).trans d1
  replace e0 := (hc9 _ (by simp only; omega)).trans e0
  replace e1 := (hc9 _ (by simp only; omega)).trans e1
  replace f0 := (hc9 _ (by simp only; omega)).trans f0
  replace f1 := (hc9 _ (by simp only; omega)).trans f1
  replace XT := XT.keep (by omega) hc9 hf9
  replace Xbu := Xbu.keep (by omega) hc9 hf9
  replace Xbv := YXbv
  replace BB := BB.trans (B9.mono (by omega))
  clear B9 hc9 hf9
  refine ⟨(fun h => by cases h), ?_⟩
  refine tree_nil ?_
  have Etr_0 := range_cut XT.1 0 17
  have Etr_1 := range_cut Xbu.1 0 17
  have Etr_2 := range_cut Xbv.1 0 17
  simp only [List.drop_zero, List.take_succ_cons, List.take_zero, Nat.zero_add] at Etr_0 Etr_1 Etr_2
  clear XT Xbu Xbv CT CU CW n1 n2 n3 n4 xt xt0 k8 k9 lbu lbv hne9
  go_simp
  cases t
  · go_wp2_with (first
    | ((with_reducible refine eload17L rk_tr Etr_0 ?_ ?_); (focus rfl)) | ((with_reducible refine wpList_ungd ?_ ?_); (focus rfl); (with_reducible refine eload17L rk_tr Etr_0 ?_ ?_); (focus rfl))
    | ((with_reducible refine eload17L rk_tr Etr_1 ?_ ?_); (focus rfl)) | ((with_reducible refine wpList_ungd ?_ ?_); (focus rfl); (with_reducible refine eload17L rk_tr Etr_1 ?_ ?_); (focus rfl))
    | ((with_reducible refine eload17L rk_tr Etr_2 ?_ ?_); (focus rfl)) | ((with_reducible refine wpList_ungd ?_ ?_); (focus rfl); (with_reducible refine eload17L rk_tr Etr_2 ?_ ?_); (focus rfl))
    | (go_at_call 22; (with_reducible refine (VT.out _).mono ?_); rintro _ W1 ⟨rfl, B⟩; replace BB := bon BB B; replace Etr_0 := rangeAt_on Etr_0 (B); replace Etr_1 := rangeAt_on Etr_1 (B); replace Etr_2 := rangeAt_on Etr_2 (B); replace c0 := cell_below (B) c0; replace c1 := cell_below (B) c1; replace d0 := cell_below (B) d0; replace d1 := cell_below (B) d1; replace e0 := cell_below (B) e0; replace e1 := cell_below (B) e1; replace f0 := cell_below (B) f0; replace f1 := cell_below (B) f1; clear B)
    | (go_at_call 13; (with_reducible refine (example34_b _).mono ?_); rintro _ W5 ⟨rfl, B⟩; replace BB := bon BB B; skip; clear B))
    go_ret
    exact ⟨rfl, BB⟩
  cases u
  · go_wp2_with (first
    | ((with_reducible refine eload17L rk_tr Etr_0 ?_ ?_); (focus rfl)) | ((with_reducible refine wpList_ungd ?_ ?_); (focus rfl); (with_reducible refine eload17L rk_tr Etr_0 ?_ ?_); (focus rfl))
    | ((with_reducible refine eload17L rk_tr Etr_1 ?_ ?_); (focus rfl)) | ((with_reducible refine wpList_ungd ?_ ?_); (focus rfl); (with_reducible refine eload17L rk_tr Etr_1 ?_ ?_); (focus rfl))
    | ((with_reducible refine eload17L rk_tr Etr_2 ?_ ?_); (focus rfl)) | ((with_reducible refine wpList_ungd ?_ ?_); (focus rfl); (with_reducible refine eload17L rk_tr Etr_2 ?_ ?_); (focus rfl))
    | (go_at_call 22; (with_reducible refine (VT.out _).mono ?_); rintro _ W1 ⟨rfl, B⟩; replace BB := bon BB B; replace Etr_0 := rangeAt_on Etr_0 (B); replace Etr_1 := rangeAt_on Etr_1 (B); replace Etr_2 := rangeAt_on Etr_2 (B); replace c0 := cell_below (B) c0; replace c1 := cell_below (B) c1; replace d0 := cell_below (B) d0; replace d1 := cell_below (B) d1; replace e0 := cell_below (B) e0; replace e1 := cell_below (B) e1; replace f0 := cell_below (B) f0; replace f1 := cell_below (B) f1; clear B)
    | (go_at_call 22; (with_reducible refine (VU.out _).mono ?_); rintro _ W2 ⟨rfl, B⟩; replace BB := bon BB B; replace Etr_0 := rangeAt_on Etr_0 (B); replace Etr_1 := rangeAt_on Etr_1 (B); replace Etr_2 := rangeAt_on Etr_2 (B); replace c0 := cell_below (B) c0; replace c1 := cell_below (B) c1; replace d0 := cell_below (B) d0; replace d1 := cell_below (B) d1; replace e0 := cell_below (B) e0; replace e1 := cell_below (B) e1; replace f0 := cell_below (B) f0; replace f1 := cell_below (B) f1; clear B)
    | (go_at_call 13; (with_reducible refine (example34_b _).mono ?_); rintro _ W5 ⟨rfl, B⟩; replace BB := bon BB B; skip; clear B))
    go_ret
    exact ⟨rfl, BB⟩
  cases v
  · go_wp2_with (first
    | ((with_reducible refine eload17L rk_tr Etr_0 ?_ ?_); (focus rfl)) | ((with_reducible refine wpList_ungd ?_ ?_); (focus rfl); (with_reducible refine eload17L rk_tr Etr_0 ?_ ?_); (focus rfl))
    | ((with_reducible refine eload17L rk_tr Etr_1 ?_ ?_); (focus rfl)) | ((with_reducible refine wpList_ungd ?_ ?_); (focus rfl); (with_reducible refine eload17L rk_tr Etr_1 ?_ ?_); (focus rfl))
    | ((with_reducible refine eload17L rk_tr Etr_2 ?_ ?_); (focus rfl)) | ((with_reducible refine wpList_ungd ?_ ?_); (focus rfl); (with_reducible refine eload17L rk_tr Etr_2 ?_ ?_); (focus rfl))
    | (go_at_call 22; (with_reducible refine (VT.out _).mono ?_); rintro _ W1 ⟨rfl, B⟩; replace BB := bon BB B; replace Etr_0 := rangeAt_on Etr_0 (B); replace Etr_1 := rangeAt_on Etr_1 (B); replace Etr_2 := rangeAt_on Etr_2 (B); replace c0 := cell_below (B) c0; replace c1 := cell_below (B) c1; replace d0 := cell_below (B) d0; replace d1 := cell_below (B) d1; replace e0 := cell_below (B) e0; replace e1 := cell_below (B) e1; replace f0 := cell_below (B) f0; replace f1 := cell_below (B) f1; clear B)
    | (go_at_call 22; (with_reducible refine (VU.out _).mono ?_); rintro _ W2 ⟨rfl, B⟩; replace BB := bon BB B; replace Etr_0 := rangeAt_on Etr_0 (B); replace Etr_1 := rangeAt_on Etr_1 (B); replace Etr_2 := rangeAt_on Etr_2 (B); replace c0 := cell_below (B) c0; replace c1 := cell_below (B) c1; replace d0 := cell_below (B) d0; replace d1 := cell_below (B) d1; replace e0 := cell_below (B) e0; replace e1 := cell_below (B) e1; replace f0 := cell_below (B) f0; replace f1 := cell_below (B) f1; clear B)
    | (go_at_call 22; (with_reducible refine (VV.out _).mono ?_); rintro _ W3 ⟨rfl, B⟩; replace BB := bon BB B; replace Etr_0 := rangeAt_on Etr_0 (B); replace Etr_1 := rangeAt_on Etr_1 (B); replace Etr_2 := rangeAt_on Etr_2 (B); replace c0 := cell_below (B) c0; replace c1 := cell_below (B) c1; replace d0 := cell_below (B) d0; replace d1 := cell_below (B) d1; replace e0 := cell_below (B) e0; replace e1 := cell_below (B) e1; replace f0 := cell_below (B) f0; replace f1 := cell_below (B) f1; clear B)
    | (go_at_call 13; (with_reducible refine (example34_b _).mono ?_); rintro _ W5 ⟨rfl, B⟩; replace BB := bon BB B; skip; clear B))
    go_ret
    exact ⟨rfl, BB⟩
  by_cases he : e = 0
  · subst he
    obtain ⟨hk, hk2⟩ := H.out rfl rfl rfl rfl
    have kt' := fun W => cov_at ⟨a.x, a.y, 0, 0, none, 0, 0⟩ ⟨b.x, b.y, 0, 0, none, 0, 0⟩ ⟨c.x, c.y, 0, 0, none, 0, 0⟩ 0 false px py _ hk W
    dsimp only at kt'
    have KT := Lib.hid kt'
    clear H hk kt'
    go_wp2_with (first
    | ((with_reducible refine eload17L rk_tr Etr_0 ?_ ?_); (focus rfl)) | ((with_reducible refine wpList_ungd ?_ ?_); (focus rfl); (with_reducible refine eload17L rk_tr Etr_0 ?_ ?_); (focus rfl))
    | ((with_reducible refine eload17L rk_tr Etr_1 ?_ ?_); (focus rfl)) | ((with_reducible refine wpList_ungd ?_ ?_); (focus rfl); (with_reducible refine eload17L rk_tr Etr_1 ?_ ?_); (focus rfl))
    | ((with_reducible refine eload17L rk_tr Etr_2 ?_ ?_); (focus rfl)) | ((with_reducible refine wpList_ungd ?_ ?_); (focus rfl); (with_reducible refine eload17L rk_tr Etr_2 ?_ ?_); (focus rfl))
    | (go_at_call 22; (with_reducible refine (VT.out _).mono ?_); rintro _ W1 ⟨rfl, B⟩; replace BB := bon BB B; replace Etr_0 := rangeAt_on Etr_0 (B); replace Etr_1 := rangeAt_on Etr_1 (B); replace Etr_2 := rangeAt_on Etr_2 (B); replace c0 := cell_below (B) c0; replace c1 := cell_below (B) c1; replace d0 := cell_below (B) d0; replace d1 := cell_below (B) d1; replace e0 := cell_below (B) e0; replace e1 := cell_below (B) e1; replace f0 := cell_below (B) f0; replace f1 := cell_below (B) f1; clear B)
    | (go_at_call 22; (with_reducible refine (VU.out _).mono ?_); rintro _ W2 ⟨rfl, B⟩; replace BB := bon BB B; replace Etr_0 := rangeAt_on Etr_0 (B); replace Etr_1 := rangeAt_on Etr_1 (B); replace Etr_2 := rangeAt_on Etr_2 (B); replace c0 := cell_below (B) c0; replace c1 := cell_below (B) c1; replace d0 := cell_below (B) d0; replace d1 := cell_below (B) d1; replace e0 := cell_below (B) e0; replace e1 := cell_below (B) e1; replace f0 := cell_below (B) f0; replace f1 := cell_below (B) f1; clear B)
    | (go_at_call 22; (with_reducible refine (VV.out _).mono ?_); rintro _ W3 ⟨rfl, B⟩; replace BB := bon BB B; replace Etr_0 := rangeAt_on Etr_0 (B); replace Etr_1 := rangeAt_on Etr_1 (B); replace Etr_2 := rangeAt_on Etr_2 (B); replace c0 := cell_below (B) c0; replace c1 := cell_below (B) c1; replace d0 := cell_below (B) d0; replace d1 := cell_below (B) d1; replace e0 := cell_below (B) e0; replace e1 := cell_below (B) e1; replace f0 := cell_below (B) f0; replace f1 := cell_below (B) f1; clear B)
    | (go_at_call 10; (with_reducible refine (CE.out _).mono ?_); rintro _ W6 ⟨rfl, B⟩; replace BB := bon BB B; replace Etr_0 := rangeAt_on Etr_0 (B); replace Etr_1 := rangeAt_on Etr_1 (B); replace Etr_2 := rangeAt_on Etr_2 (B); replace c0 := cell_below (B) c0; replace c1 := cell_below (B) c1; replace d0 := cell_below (B) d0; replace d1 := cell_below (B) d1; replace e0 := cell_below (B) e0; replace e1 := cell_below (B) e1; replace f0 := cell_below (B) f0; replace f1 := cell_below (B) f1; clear B))
    have k_d0 := cell_regrown d0
    have k_d1 := cell_regrown d1
    refine wp_region_quiet_below (by kernel_rfl) (by kernel_rfl) ?_
    repeat (first | ((try simp only [List.getElem_toArray, List.getElem_cons_succ, List.getElem_cons_zero]); go_big_quiet_want; refine quiet_eload _ _ rfl rk_tr rfl (fun W hW => rangeAt_on Etr_0 (below_regrown' hW)) rfl ?_; go_simp; go_big_quiet_on) | ((try simp only [List.getElem_toArray, List.getElem_cons_succ, List.getElem_cons_zero]); go_big_quiet_want; refine quiet_eload _ _ rfl rk_tr rfl (fun W hW => rangeAt_on Etr_1 (below_regrown' hW)) rfl ?_; go_simp; go_big_quiet_on) | ((try simp only [List.getElem_toArray, List.getElem_cons_succ, List.getElem_cons_zero]); go_big_quiet_want; refine quiet_eload _ _ rfl rk_tr rfl (fun W hW => rangeAt_on Etr_2 (below_regrown' hW)) rfl ?_; go_simp; go_big_quiet_on) | ((try simp only [List.getElem_toArray, List.getElem_cons_succ, List.getElem_cons_zero]); go_big_quiet_step ((first | (go_at_call 24; with_reducible exact Calls.regrown_of (KU.out _)) | (go_at_call 24; with_reducible exact Calls.regrown_of (KV.out _))))) | ((try simp only [List.getElem_toArray, List.getElem_cons_succ, List.getElem_cons_zero]); quiet_step ((first | (go_at_call 24; with_reducible exact Calls.regrown_of (KU.out _)) | (go_at_call 24; with_reducible exact Calls.regrown_of (KV.out _))))))
    refine wpQuiet_nil ?_
    intro W9 hw'
    have B9 := below_regrown' hw'
    clear hw' k_d0 k_d1
    replace Etr_0 := rangeAt_on Etr_0 (B9)
    replace Etr_1 := rangeAt_on Etr_1 (B9)
    replace Etr_2 := rangeAt_on Etr_2 (B9)
    replace d0 := cell_below (B9) d0
    replace d1 := cell_below (B9) d1
    replace BB := bon BB B9
    clear B9
    clear KU KV VT VU VV CE Etr_1 Etr_2
    cases x <;> cases y
    all_goals
      first
        | (cases hk2; done)
        | (go_wp2_with (first
    | ((with_reducible refine eload17L rk_tr Etr_0 ?_ ?_); (focus rfl)) | ((with_reducible refine wpList_ungd ?_ ?_); (focus rfl); (with_reducible refine eload17L rk_tr Etr_0 ?_ ?_); (focus rfl))
    | (go_at_call 24; (with_reducible refine (KT.out _).mono ?_); rintro _ W7 ⟨rfl, B⟩; replace BB := bon BB B; replace Etr_0 := rangeAt_on Etr_0 (B); clear B)
    | (go_at_call 13; (with_reducible refine (example34_b _).mono ?_); rintro _ W5 ⟨rfl, B⟩; replace BB := bon BB B; skip; clear B)); go_ret; exact ⟨rfl, BB⟩)
  · have g : (e == 0) = false := by simpa using he
    clear H
    go_wp2_with (first
    | ((with_reducible refine eload17L rk_tr Etr_0 ?_ ?_); (focus rfl)) | ((with_reducible refine wpList_ungd ?_ ?_); (focus rfl); (with_reducible refine eload17L rk_tr Etr_0 ?_ ?_); (focus rfl))
    | ((with_reducible refine eload17L rk_tr Etr_1 ?_ ?_); (focus rfl)) | ((with_reducible refine wpList_ungd ?_ ?_); (focus rfl); (with_reducible refine eload17L rk_tr Etr_1 ?_ ?_); (focus rfl))
    | ((with_reducible refine eload17L rk_tr Etr_2 ?_ ?_); (focus rfl)) | ((with_reducible refine wpList_ungd ?_ ?_); (focus rfl); (with_reducible refine eload17L rk_tr Etr_2 ?_ ?_); (focus rfl))
    | (go_at_call 22; (with_reducible refine (VT.out _).mono ?_); rintro _ W1 ⟨rfl, B⟩; replace BB := bon BB B; replace Etr_0 := rangeAt_on Etr_0 (B); replace Etr_1 := rangeAt_on Etr_1 (B); replace Etr_2 := rangeAt_on Etr_2 (B); replace c0 := cell_below (B) c0; replace c1 := cell_below (B) c1; replace d0 := cell_below (B) d0; replace d1 := cell_below (B) d1; replace e0 := cell_below (B) e0; replace e1 := cell_below (B) e1; replace f0 := cell_below (B) f0; replace f1 := cell_below (B) f1; clear B)
    | (go_at_call 22; (with_reducible refine (VU.out _).mono ?_); rintro _ W2 ⟨rfl, B⟩; replace BB := bon BB B; replace Etr_0 := rangeAt_on Etr_0 (B); replace Etr_1 := rangeAt_on Etr_1 (B); replace Etr_2 := rangeAt_on Etr_2 (B); replace c0 := cell_below (B) c0; replace c1 := cell_below (B) c1; replace d0 := cell_below (B) d0; replace d1 := cell_below (B) d1; replace e0 := cell_below (B) e0; replace e1 := cell_below (B) e1; replace f0 := cell_below (B) f0; replace f1 := cell_below (B) f1; clear B)
    | (go_at_call 22; (with_reducible refine (VV.out _).mono ?_); rintro _ W3 ⟨rfl, B⟩; replace BB := bon BB B; replace Etr_0 := rangeAt_on Etr_0 (B); replace Etr_1 := rangeAt_on Etr_1 (B); replace Etr_2 := rangeAt_on Etr_2 (B); replace c0 := cell_below (B) c0; replace c1 := cell_below (B) c1; replace d0 := cell_below (B) d0; replace d1 := cell_below (B) d1; replace e0 := cell_below (B) e0; replace e1 := cell_below (B) e1; replace f0 := cell_below (B) f0; replace f1 := cell_below (B) f1; clear B)
    | (go_at_call 10; (with_reducible refine (CE.out _).mono ?_); rintro _ W6 ⟨rfl, B⟩; replace BB := bon BB B; replace Etr_0 := rangeAt_on Etr_0 (B); replace Etr_1 := rangeAt_on Etr_1 (B); replace Etr_2 := rangeAt_on Etr_2 (B); replace c0 := cell_below (B) c0; replace c1 := cell_below (B) c1; replace d0 := cell_below (B) d0; replace d1 := cell_below (B) d1; replace e0 := cell_below (B) e0; replace e1 := cell_below (B) e1; replace f0 := cell_below (B) f0; replace f1 := cell_below (B) f1; clear B)
    | (go_at_call 13; (with_reducible refine (example34_b _).mono ?_); rintro _ W5 ⟨rfl, B⟩; replace BB := bon BB B; skip; clear B))
    go_ret
    exact ⟨rfl, BB⟩

theorem split_walk (a b c : SV) (p : Int) (f : Bool) (mx my px py : Int) (w : World) : Calls Try.prog 8 #[.agg #[.int .i64 a.x, .int .i64 a.y, .int .i64 a.z, .int .i64 a.q, .slice a.A a.n a.c, .int .i64 b.x, .int .i64 b.y, .int .i64 b.z, .int .i64 b.q, .slice b.A b.n b.c, .int .i64 c.x, .int .i64 c.y, .int .i64 c.z, .int .i64 c.q, .slice c.A c.n c.c, .int .i64 p, .bool f], .agg #[.int .i64 mx, .int .i64 my], .agg #[.int .i64 px, .int .i64 py]] w fun e w' => e = .returned (.bool true) ∧ Below w.heap.size w w' :=
  split_case a b c p f mx my px py _ _ _ _ _ _ rfl rfl rfl rfl rfl rfl (fun ht hu hv he => cov_split (a := ⟨a.x, a.y, 0, 0, none, 0, 0⟩) (b := ⟨b.x, b.y, 0, 0, none, 0, 0⟩) (c := ⟨c.x, c.y, 0, 0, none, 0, 0⟩) (m := ⟨mx, my, 0, 0, none, 0, 0⟩) ht hu hv he px py) w

end Go.Proofs.Ytmmhnhjipbecdaa
