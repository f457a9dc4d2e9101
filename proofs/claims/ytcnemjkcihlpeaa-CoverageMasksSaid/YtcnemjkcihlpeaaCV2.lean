/- What triangle, Full return; the example; the walk of CoverageRotates. -/
import Derived.Test.YtcnemjkcihlpeaaCV1
import Derived.Test.YtcnemjkcihlpeaaSetR
namespace Go.Proofs.Ytcnemjkcihlpeaa
set_option linter.unusedSimpArgs false
open Go.RowKit Go.Sort Go.ChangeShapes Go.WideShapes
set_option linter.unusedVariables false

theorem zero_tr : ZeroIs Try.prog 36 #[.int .i64 0, .int .i64 0, .int .i64 0, .int .i64 0, .slice none 0 0, .int .i64 0, .int .i64 0, .int .i64 0, .int .i64 0, .slice none 0 0, .int .i64 0, .int .i64 0, .int .i64 0, .int .i64 0, .slice none 0 0, .int .i64 0, .bool false] := zeroIs_of (by kernel_rfl)

theorem mask_at (a b c : SV) (p : Int) (f : Bool) (x y n v : Int) (h : maskv a b c x y n = v) (w : World) : Calls Try.prog 20 #[.agg #[.int .i64 a.x, .int .i64 a.y, .int .i64 a.z, .int .i64 a.q, .slice a.A a.n a.c, .int .i64 b.x, .int .i64 b.y, .int .i64 b.z, .int .i64 b.q, .slice b.A b.n b.c, .int .i64 c.x, .int .i64 c.y, .int .i64 c.z, .int .i64 c.q, .slice c.A c.n c.c, .int .i64 p, .bool f], .int .i64 x, .int .i64 y, .int .i64 n] w fun e w' => e = .returned (.int .i64 v) ∧ Below w.heap.size w w' := h ▸ mask_b a b c p f x y n w

set_option maxRecDepth 100000 in
set_option maxHeartbeats 2000000 in
theorem triangle_b (ax ay bx by' cx cy : Int) (w : World) : Calls Try.prog 29 #[.int .i64 ax, .int .i64 ay, .int .i64 bx, .int .i64 by', .int .i64 cx, .int .i64 cy] w fun e w' => e = .returned (.agg #[.int .i64 ax, .int .i64 ay, .int .i64 0, .int .i64 0, .slice none 0 0, .int .i64 bx, .int .i64 by', .int .i64 0, .int .i64 0, .slice none 0 0, .int .i64 cx, .int .i64 cy, .int .i64 0, .int .i64 0, .slice none 0 0, .int .i64 0, .bool false]) ∧ Below w.heap.size w w' := by
  have BB := box_below w #[.int .i64 ax, .int .i64 ay, .int .i64 0, .int .i64 0, .slice none 0 0, .int .i64 bx, .int .i64 by', .int .i64 0, .int .i64 0, .slice none 0 0, .int .i64 cx, .int .i64 cy, .int .i64 0, .int .i64 0, .slice none 0 0, .int .i64 0, .bool false] 36
  go_enter Try.func29, Try.ntmps29
  go_wp2
  exact bodyPost_ret (by simp [results, Try.results29, go_sem]) rfl ⟨rfl, BB⟩

theorem vs_4 (w : World) : Calls Try.prog 13 #[.int .i64 4] w fun e w' => e = .returned (.bool true) ∧ Below w.heap.size w w' := by
  go_enter Try.func13, Try.ntmps13
  go_wp2
  go_ret
  exact ⟨rfl, Below.refl _ _⟩

theorem full_4 (w : World) : Calls Try.prog 17 #[.int .i64 4] w fun e w' => e = .returned (.int .i64 15) ∧ Below w.heap.size w w' := by
  have BB := Below.refl w.heap.size w
  have CV := Lib.hid (fun W => vs_4 W)
  go_enter Try.func17, Try.ntmps17
  go_wp2_with (go_at_call 13; (with_reducible refine (CV.out _).mono ?_); rintro _ W1 ⟨rfl, B⟩; replace BB := bon BB B; skip; skip; clear B)
  go_ret
  exact ⟨rfl, BB⟩

theorem mask_ex1 (w : World) : Calls Try.prog 20 #[.agg #[.int .i64 0, .int .i64 0, .int .i64 0, .int .i64 0, .slice none 0 0, .int .i64 512, .int .i64 0, .int .i64 0, .int .i64 0, .slice none 0 0, .int .i64 0, .int .i64 512, .int .i64 0, .int .i64 0, .slice none 0 0, .int .i64 0, .bool false], .int .i64 0, .int .i64 0, .int .i64 1] w fun e w' => e = .returned (.int .i64 1) ∧ Below w.heap.size w w' := mask_at ⟨0, 0, 0, 0, none, 0, 0⟩ ⟨512, 0, 0, 0, none, 0, 0⟩ ⟨0, 512, 0, 0, none, 0, 0⟩ 0 false 0 0 1 1 (by decide) w

theorem mask_ex2 (w : World) : Calls Try.prog 20 #[.agg #[.int .i64 0, .int .i64 0, .int .i64 0, .int .i64 0, .slice none 0 0, .int .i64 512, .int .i64 0, .int .i64 0, .int .i64 0, .slice none 0 0, .int .i64 0, .int .i64 512, .int .i64 0, .int .i64 0, .slice none 0 0, .int .i64 0, .bool false], .int .i64 1, .int .i64 1, .int .i64 1] w fun e w' => e = .returned (.int .i64 0) ∧ Below w.heap.size w w' := mask_at ⟨0, 0, 0, 0, none, 0, 0⟩ ⟨512, 0, 0, 0, none, 0, 0⟩ ⟨0, 512, 0, 0, none, 0, 0⟩ 0 false 1 1 1 0 (by decide) w

set_option maxRecDepth 100000 in
set_option maxHeartbeats 2000000 in
theorem example35_b (w : World) : Calls Try.prog 19 #[] w fun e w' => e = .returned (.bool true) ∧ Below w.heap.size w w' := by
  have BB := Below.refl w.heap.size w
  have CT := Lib.hid (fun W => triangle_b 0 0 512 0 0 512 W)
  have C1 := Lib.hid (fun W => mask_ex1 W)
  have C2 := Lib.hid (fun W => mask_ex2 W)
  have CF := Lib.hid (fun W => full_4 W)
  go_enter Try.func19, Try.ntmps19
  go_wp2_with (first
    | (go_at_call 29; (refine (CT.out _).mono ?_); rintro _ W1 ⟨rfl, B⟩; replace BB := bon BB (bon B (box_below W1 #[.int .i64 0, .int .i64 0, .int .i64 0, .int .i64 0, .slice none 0 0, .int .i64 512, .int .i64 0, .int .i64 0, .int .i64 0, .slice none 0 0, .int .i64 0, .int .i64 512, .int .i64 0, .int .i64 0, .slice none 0 0, .int .i64 0, .bool false] 36)); have r0 := range_cut (EBox.made W1 #[.int .i64 0, .int .i64 0, .int .i64 0, .int .i64 0, .slice none 0 0, .int .i64 512, .int .i64 0, .int .i64 0, .int .i64 0, .slice none 0 0, .int .i64 0, .int .i64 512, .int .i64 0, .int .i64 0, .slice none 0 0, .int .i64 0, .bool false] 36).1 0 17; simp only [List.drop_zero, List.take_succ_cons, List.take_zero, Nat.zero_add] at r0; clear B)
    | ((with_reducible refine eload17L rk_tr r0 ?_ ?_); focus rfl)
    | (refine wpList_ungd rfl ?_; (with_reducible refine eload17L rk_tr r0 ?_ ?_); focus rfl)
    | (go_at_call 20; (with_reducible refine (C1.out _).mono ?_); rintro _ W2 ⟨rfl, B⟩; replace BB := bon BB B; replace r0 := rangeAt_on r0 (B); skip; clear B)
    | (go_at_call 20; (with_reducible refine (C2.out _).mono ?_); rintro _ W3 ⟨rfl, B⟩; replace BB := bon BB B; replace r0 := rangeAt_on r0 (B); skip; clear B)
    | (go_at_call 17; (with_reducible refine (CF.out _).mono ?_); rintro _ W4 ⟨rfl, B⟩; replace BB := bon BB B; replace r0 := rangeAt_on r0 (B); skip; clear B))
  go_ret
  exact ⟨rfl, BB⟩

set_option maxRecDepth 100000 in
set_option maxHeartbeats 8000000 in
theorem rot_case (a b c : SV) (p : Int) (f : Bool) (x y n M : Int) (h1 : maskv a b c x y n = M) (h2 : maskv b c a x y n = M) (w : World) : Calls Try.prog 8 #[.agg #[.int .i64 a.x, .int .i64 a.y, .int .i64 a.z, .int .i64 a.q, .slice a.A a.n a.c, .int .i64 b.x, .int .i64 b.y, .int .i64 b.z, .int .i64 b.q, .slice b.A b.n b.c, .int .i64 c.x, .int .i64 c.y, .int .i64 c.z, .int .i64 c.q, .slice c.A c.n c.c, .int .i64 p, .bool f], .int .i64 x, .int .i64 y, .int .i64 n] w fun e w' => e = .returned (.bool true) ∧ Below w.heap.size w w' := by
  have BB := box_below w #[.int .i64 a.x, .int .i64 a.y, .int .i64 a.z, .int .i64 a.q, .slice a.A a.n a.c, .int .i64 b.x, .int .i64 b.y, .int .i64 b.z, .int .i64 b.q, .slice b.A b.n b.c, .int .i64 c.x, .int .i64 c.y, .int .i64 c.z, .int .i64 c.q, .slice c.A c.n c.c, .int .i64 p, .bool f] 36
  have X0 := EBox.made w #[.int .i64 a.x, .int .i64 a.y, .int .i64 a.z, .int .i64 a.q, .slice a.A a.n a.c, .int .i64 b.x, .int .i64 b.y, .int .i64 b.z, .int .i64 b.q, .slice b.A b.n b.c, .int .i64 c.x, .int .i64 c.y, .int .i64 c.z, .int .i64 c.q, .slice c.A c.n c.c, .int .i64 p, .bool f] 36
  have Es := range_cut X0.1 0 17
  have Esv_0 := range_cut X0.1 0 5
  have Esv_1 := range_cut X0.1 5 5
  have Esv_2 := range_cut X0.1 10 5
  simp only [List.drop_succ_cons, List.drop_zero, List.take_succ_cons, List.take_zero, Nat.zero_add] at Es Esv_0 Esv_1 Esv_2
  clear X0
  obtain ⟨T, hT⟩ : ∃ T, Value.agg #[.int .i64 a.x, .int .i64 a.y, .int .i64 a.z, .int .i64 a.q, .slice a.A a.n a.c, .int .i64 b.x, .int .i64 b.y, .int .i64 b.z, .int .i64 b.q, .slice b.A b.n b.c, .int .i64 c.x, .int .i64 c.y, .int .i64 c.z, .int .i64 c.q, .slice c.A c.n c.c, .int .i64 p, .bool f] = T := ⟨_, rfl⟩
  obtain ⟨T', hU⟩ : ∃ T', Value.agg #[.int .i64 b.x, .int .i64 b.y, .int .i64 b.z, .int .i64 b.q, .slice b.A b.n b.c, .int .i64 c.x, .int .i64 c.y, .int .i64 c.z, .int .i64 c.q, .slice c.A c.n c.c, .int .i64 a.x, .int .i64 a.y, .int .i64 a.z, .int .i64 a.q, .slice a.A a.n a.c, .int .i64 p, .bool f] = T' := ⟨_, rfl⟩
  have ca' := fun W => mask_at a b c p f x y n M h1 W
  rw [hT] at ca'
  have CA := Lib.hid ca'
  have cb' := fun W => mask_at b c a p f x y n M h2 W
  rw [hU] at cb'
  have CB := Lib.hid cb'
  have CE := Lib.hid (fun W => example35_b W)
  have HT := Lib.hid hT
  have HU := Lib.hid hU
  clear h1 h2 hT hU ca' cb'
  go_enter Try.func8, Try.ntmps8
  go_wp2_with (first
    | ((with_reducible refine eload17L rk_tr Es ?_ ?_); (focus rfl); rw [HT.out]; have Etr_0 := Es; clear Es; generalize hW : (w.alloc (.cells #[.int .i64 a.x, .int .i64 a.y, .int .i64 a.z, .int .i64 a.q, .slice a.A a.n a.c, .int .i64 b.x, .int .i64 b.y, .int .i64 b.z, .int .i64 b.q, .slice b.A b.n b.c, .int .i64 c.x, .int .i64 c.y, .int .i64 c.z, .int .i64 c.q, .slice c.A c.n c.c, .int .i64 p, .bool f] 36)) = W0 at *; clear hW)
    | ((with_reducible refine wpList_allocL zero_tr ?_); refine esetL (vs := [.int .i64 a.x, .int .i64 a.y, .int .i64 a.z, .int .i64 a.q, .slice a.A a.n a.c, .int .i64 b.x, .int .i64 b.y, .int .i64 b.z, .int .i64 b.q, .slice b.A b.n b.c, .int .i64 c.x, .int .i64 c.y, .int .i64 c.z, .int .i64 c.q, .slice c.A c.n c.c, .int .i64 p, .bool f]) rk_tr rfl rfl (EBox.made _ _ _) rfl HT.out.symm (by simp [Value.oneCell']) ?_; intro V0 Xu B9 hc9 hf9; have lt := block_lt_of_cell (Etr_0 0 _ rfl); replace B9 := (box_below W0 _ _).trans B9; replace Etr_0 := rangeAt_on Etr_0 (B9); replace Esv_0 := rangeAt_on Esv_0 (B9); replace Esv_1 := rangeAt_on Esv_1 (B9); replace Esv_2 := rangeAt_on Esv_2 (B9); replace BB := bon BB B9; have lu := Nat.le_of_lt lt; generalize W0.heap.size = bu at *; clear B9 hc9 hf9; go_simp)
    | ((with_reducible refine eload5L rk_sv Esv_0 ?_ ?_); focus rfl)
    | ((with_reducible refine eload5L rk_sv Esv_1 ?_ ?_); focus rfl)
    | ((with_reducible refine eload5L rk_sv Esv_2 ?_ ?_); focus rfl)
    | (refine esetRL (us := [.int .i64 a.x, .int .i64 a.y, .int .i64 a.z, .int .i64 a.q, .slice a.A a.n a.c, .int .i64 b.x, .int .i64 b.y, .int .i64 b.z, .int .i64 b.q, .slice b.A b.n b.c, .int .i64 c.x, .int .i64 c.y, .int .i64 c.z, .int .i64 c.q, .slice c.A c.n c.c]) (vs := [.int .i64 b.x, .int .i64 b.y, .int .i64 b.z, .int .i64 b.q, .slice b.A b.n b.c, .int .i64 c.x, .int .i64 c.y, .int .i64 c.z, .int .i64 c.q, .slice c.A c.n c.c, .int .i64 a.x, .int .i64 a.y, .int .i64 a.z, .int .i64 a.q, .slice a.A a.n a.c]) (rs := [.int .i64 p, .bool f]) rk_t3 rfl rfl Xu rfl rfl (by simp [Value.oneCell']) ?_; intro V1 Y B9 hc9 hf9; replace BB := BB.trans (B9.mono lu); replace Etr_0 := rangeAt_below Etr_0 lt B9; have Etr_1 := range_cut Y.1 0 17; simp only [List.drop_zero, List.take_succ_cons, List.take_zero, Nat.zero_add, List.cons_append, List.nil_append] at Etr_1; clear Y B9 hc9 hf9 Xu Esv_0 Esv_1 Esv_2 lu lt))
  go_simp
  refine wp_region_quiet_below (by kernel_rfl) (by kernel_rfl) ?_
  repeat (first | ((try simp only [List.getElem_toArray, List.getElem_cons_succ, List.getElem_cons_zero]); go_big_quiet_want; refine quiet_eloadT _ _ rfl rk_tr rfl (fun W hW => rangeAt_on Etr_0 (below_regrown' hW)) HT.out rfl ?_; go_simp; go_big_quiet_on) | ((try simp only [List.getElem_toArray, List.getElem_cons_succ, List.getElem_cons_zero]); go_big_quiet_want; refine quiet_eloadT _ _ rfl rk_tr rfl (fun W hW => rangeAt_on Etr_1 (below_regrown' hW)) HU.out rfl ?_; go_simp; go_big_quiet_on) | ((try simp only [List.getElem_toArray, List.getElem_cons_succ, List.getElem_cons_zero]); go_big_quiet_want; refine quiet_eload _ _ rfl rk_tr rfl (fun W hW => rangeAt_on Etr_0 (below_regrown' hW)) rfl ?_; go_simp; go_big_quiet_on) | ((try simp only [List.getElem_toArray, List.getElem_cons_succ, List.getElem_cons_zero]); go_big_quiet_want; refine quiet_eload _ _ rfl rk_tr rfl (fun W hW => rangeAt_on Etr_1 (below_regrown' hW)) rfl ?_; go_simp; go_big_quiet_on) | ((try simp only [List.getElem_toArray, List.getElem_cons_succ, List.getElem_cons_zero]); go_big_quiet_step ((first | (go_at_call 20; with_reducible exact Calls.regrown_of (CA.out _)) | (go_at_call 20; with_reducible exact Calls.regrown_of (CB.out _)) | (go_at_call 19; with_reducible exact Calls.regrown_of (CE.out _))))) | ((try simp only [List.getElem_toArray, List.getElem_cons_succ, List.getElem_cons_zero]); quiet_step ((first | (go_at_call 20; with_reducible exact Calls.regrown_of (CA.out _)) | (go_at_call 20; with_reducible exact Calls.regrown_of (CB.out _)) | (go_at_call 19; with_reducible exact Calls.regrown_of (CE.out _))))))
  refine wpQuiet_nil ?_
  intro W9 hw'
  have B9 := below_regrown' hw'
  clear hw'
  replace Etr_0 := rangeAt_on Etr_0 (B9)
  replace Etr_1 := rangeAt_on Etr_1 (B9)
  replace BB := bon BB B9
  clear B9
  first
    | (go_wp2; go_ret; exact ⟨rfl, BB⟩)
    | (go_simp; go_ret; exact ⟨rfl, BB⟩)
    | (go_wp2_with fail; go_ret; exact ⟨rfl, BB⟩)

theorem rot_walk (a b c : SV) (p : Int) (f : Bool) (x y n : Int) (w : World) : Calls Try.prog 8 #[.agg #[.int .i64 a.x, .int .i64 a.y, .int .i64 a.z, .int .i64 a.q, .slice a.A a.n a.c, .int .i64 b.x, .int .i64 b.y, .int .i64 b.z, .int .i64 b.q, .slice b.A b.n b.c, .int .i64 c.x, .int .i64 c.y, .int .i64 c.z, .int .i64 c.q, .slice c.A c.n c.c, .int .i64 p, .bool f], .int .i64 x, .int .i64 y, .int .i64 n] w fun e w' => e = .returned (.bool true) ∧ Below w.heap.size w w' := rot_case a b c p f x y n _ rfl (mask_turn a b c x y n) w

end Go.Proofs.Ytcnemjkcihlpeaa
