/- The walk of EdgeCovers. -/
import Derived.Test.YtmmhnhjipbecdaaEG12
namespace Go.Proofs.Ytmmhnhjipbecdaa
set_option linter.unusedSimpArgs false
open Go.RowKit Go.Sort Go.ChangeShapes Go.WideShapes
set_option linter.unusedVariables false

set_option maxRecDepth 100000 in
set_option maxHeartbeats 8000000 in
theorem covers_case (a b c : SV) (p : Int) (f : Bool) (px py x0 x1 x2 S l0 l1 l2 l3 : Int) (v cv : Bool) (hx : wres (wtv a b c px py) = .tuple #[.agg #[.int .i64 x0, .int .i64 x1, .int .i64 x2], .int .i64 S]) (hv : trv a b c = v) (hc : cov a b c px py = cv) (hb : bds a b c = .tuple #[.int .i64 l0, .int .i64 l1, .int .i64 l2, .int .i64 l3]) (w : World) :
    Calls Try.prog 5 #[.agg #[.int .i64 a.x, .int .i64 a.y, .int .i64 a.z, .int .i64 a.q, .slice a.A a.n a.c, .int .i64 b.x, .int .i64 b.y, .int .i64 b.z, .int .i64 b.q, .slice b.A b.n b.c, .int .i64 c.x, .int .i64 c.y, .int .i64 c.z, .int .i64 c.q, .slice c.A c.n c.c, .int .i64 p, .bool f], .agg #[.int .i64 px, .int .i64 py]] w fun e w' => e = .returned (.bool true) ∧ Below w.heap.size w w' := by
  have BB := box_below w #[.int .i64 a.x, .int .i64 a.y, .int .i64 a.z, .int .i64 a.q, .slice a.A a.n a.c, .int .i64 b.x, .int .i64 b.y, .int .i64 b.z, .int .i64 b.q, .slice b.A b.n b.c, .int .i64 c.x, .int .i64 c.y, .int .i64 c.z, .int .i64 c.q, .slice c.A c.n c.c, .int .i64 p, .bool f] 34
  have X0 := EBox.made w #[.int .i64 a.x, .int .i64 a.y, .int .i64 a.z, .int .i64 a.q, .slice a.A a.n a.c, .int .i64 b.x, .int .i64 b.y, .int .i64 b.z, .int .i64 b.q, .slice b.A b.n b.c, .int .i64 c.x, .int .i64 c.y, .int .i64 c.z, .int .i64 c.q, .slice c.A c.n c.c, .int .i64 p, .bool f] 34
  have hsz1 : (w.alloc (.cells #[.int .i64 a.x, .int .i64 a.y, .int .i64 a.z, .int .i64 a.q, .slice a.A a.n a.c, .int .i64 b.x, .int .i64 b.y, .int .i64 b.z, .int .i64 b.q, .slice b.A b.n b.c, .int .i64 c.x, .int .i64 c.y, .int .i64 c.z, .int .i64 c.q, .slice c.A c.n c.c, .int .i64 p, .bool f] 34)).heap.size = w.heap.size + 1 := by simp
  have X1 := EBox.made (w.alloc (.cells #[.int .i64 a.x, .int .i64 a.y, .int .i64 a.z, .int .i64 a.q, .slice a.A a.n a.c, .int .i64 b.x, .int .i64 b.y, .int .i64 b.z, .int .i64 b.q, .slice b.A b.n b.c, .int .i64 c.x, .int .i64 c.y, .int .i64 c.z, .int .i64 c.q, .slice c.A c.n c.c, .int .i64 p, .bool f] 34)) #[.int .i64 px, .int .i64 py] 22
  rw [hsz1] at X1
  replace X0 := X0.on (Nat.succ_pos _) (box_below (w.alloc (.cells #[.int .i64 a.x, .int .i64 a.y, .int .i64 a.z, .int .i64 a.q, .slice a.A a.n a.c, .int .i64 b.x, .int .i64 b.y, .int .i64 b.z, .int .i64 b.q, .slice b.A b.n b.c, .int .i64 c.x, .int .i64 c.y, .int .i64 c.z, .int .i64 c.q, .slice c.A c.n c.c, .int .i64 p, .bool f] 34)) #[.int .i64 px, .int .i64 py] 22)
  replace BB := bon BB (box_below (w.alloc (.cells #[.int .i64 a.x, .int .i64 a.y, .int .i64 a.z, .int .i64 a.q, .slice a.A a.n a.c, .int .i64 b.x, .int .i64 b.y, .int .i64 b.z, .int .i64 b.q, .slice b.A b.n b.c, .int .i64 c.x, .int .i64 c.y, .int .i64 c.z, .int .i64 c.q, .slice c.A c.n c.c, .int .i64 p, .bool f] 34)) #[.int .i64 px, .int .i64 py] 22)
  clear hsz1
  have Etr := range_cut X0.1 0 17
  simp only [List.drop_succ_cons, List.drop_zero, List.take_succ_cons, List.take_zero, Nat.zero_add] at Etr
  have c0 := X1.cell (i := 0) rfl
  have c1 := X1.cell (i := 1) rfl
  clear X0 X1
  obtain ⟨T, hT⟩ : ∃ T, Value.agg #[.int .i64 a.x, .int .i64 a.y, .int .i64 a.z, .int .i64 a.q, .slice a.A a.n a.c, .int .i64 b.x, .int .i64 b.y, .int .i64 b.z, .int .i64 b.q, .slice b.A b.n b.c, .int .i64 c.x, .int .i64 c.y, .int .i64 c.z, .int .i64 c.q, .slice c.A c.n c.c, .int .i64 p, .bool f] = T := ⟨_, rfl⟩
  have cx' := fun W => wts_at a b c p f px py _ hx W
  rw [hT] at cx'
  have CX := Lib.hid cx'
  clear cx'
  have cy' := fun W => rwts_at a b c p f px py _ hx W
  rw [hT] at cy'
  have CY := Lib.hid cy'
  clear cy'
  have cb' := fun W => bounds_at a b c p f _ hb W
  rw [hT] at cb'
  have CB := Lib.hid cb'
  clear cb'
  have cd' := fun W => rbounds_at a b c p f _ hb W
  rw [hT] at cd'
  have CD := Lib.hid cd'
  clear cd'
  have cv' := fun W => valid_at a b c p f v hv W
  rw [hT] at cv'
  have CV := Lib.hid cv'
  clear cv'
  have cw' := fun W => rvalid_at a b c p f v hv W
  rw [hT] at cw'
  have CW := Lib.hid cw'
  clear cw'
  have cc' := fun W => cov_at a b c p f px py cv hc W
  rw [hT] at cc'
  have CC := Lib.hid cc'
  clear cc'
  have ce' := fun W => rcov_at a b c p f px py cv hc W
  rw [hT] at ce'
  have CE := Lib.hid ce'
  clear ce'
  have EQ := fun W => eq3 x0 x1 x2 x0 x1 x2 W
  simp only [beq_self_eq_true, Bool.and_self] at EQ
  have GU := guard3
  have HT := Lib.hid hT
  clear hx hv hc hb hT
  go_enter Try.func5, Try.ntmps5
  go_wp2_with (first
    | ((with_reducible refine eload17L rk_tr Etr ?_ ?_); (focus rfl); rw [HT.out])
    | (go_at_call 18; (with_reducible refine (CX.out _).mono ?_); rintro _ W1 ⟨rfl, B⟩; replace BB := bon BB (bon B (box_below W1 #[.int .i64 x0, .int .i64 x1, .int .i64 x2] 35)); replace Etr := rangeAt_on Etr (bon B (box_below W1 #[.int .i64 x0, .int .i64 x1, .int .i64 x2] 35)); replace c0 := cell_below (bon B (box_below W1 #[.int .i64 x0, .int .i64 x1, .int .i64 x2] 35)) c0; replace c1 := cell_below (bon B (box_below W1 #[.int .i64 x0, .int .i64 x1, .int .i64 x2] 35)) c1; have g0 := box_cell W1 #[.int .i64 x0, .int .i64 x1, .int .i64 x2] 35 0 _ rfl; have g1 := box_cell W1 #[.int .i64 x0, .int .i64 x1, .int .i64 x2] 35 1 _ rfl; have g2 := box_cell W1 #[.int .i64 x0, .int .i64 x1, .int .i64 x2] 35 2 _ rfl; clear B)
    | (go_at_call 19; (with_reducible refine (CY.out _).mono ?_); rintro _ W2 ⟨rfl, B⟩; replace BB := bon BB (bon B (box_below W2 #[.int .i64 x0, .int .i64 x1, .int .i64 x2] 35)); replace Etr := rangeAt_on Etr (bon B (box_below W2 #[.int .i64 x0, .int .i64 x1, .int .i64 x2] 35)); replace c0 := cell_below (bon B (box_below W2 #[.int .i64 x0, .int .i64 x1, .int .i64 x2] 35)) c0; replace c1 := cell_below (bon B (box_below W2 #[.int .i64 x0, .int .i64 x1, .int .i64 x2] 35)) c1; replace g0 := cell_below (bon B (box_below W2 #[.int .i64 x0, .int .i64 x1, .int .i64 x2] 35)) g0; replace g1 := cell_below (bon B (box_below W2 #[.int .i64 x0, .int .i64 x1, .int .i64 x2] 35)) g1; replace g2 := cell_below (bon B (box_below W2 #[.int .i64 x0, .int .i64 x1, .int .i64 x2] 35)) g2; have k0 := box_cell W2 #[.int .i64 x0, .int .i64 x1, .int .i64 x2] 35 0 _ rfl; have k1 := box_cell W2 #[.int .i64 x0, .int .i64 x1, .int .i64 x2] 35 1 _ rfl; have k2 := box_cell W2 #[.int .i64 x0, .int .i64 x1, .int .i64 x2] 35 2 _ rfl; clear B)
    | (go_at_call 20; (with_reducible refine (CB.out _).mono ?_); rintro _ W3 ⟨rfl, B⟩; replace BB := bon BB B; replace Etr := rangeAt_on Etr (B); replace c0 := cell_below (B) c0; replace c1 := cell_below (B) c1; replace g0 := cell_below (B) g0; replace g1 := cell_below (B) g1; replace g2 := cell_below (B) g2; replace k0 := cell_below (B) k0; replace k1 := cell_below (B) k1; replace k2 := cell_below (B) k2; clear B)
    | (go_at_call 21; (with_reducible refine (CD.out _).mono ?_); rintro _ W4 ⟨rfl, B⟩; replace BB := bon BB B; replace Etr := rangeAt_on Etr (B); replace c0 := cell_below (B) c0; replace c1 := cell_below (B) c1; replace g0 := cell_below (B) g0; replace g1 := cell_below (B) g1; replace g2 := cell_below (B) g2; replace k0 := cell_below (B) k0; replace k1 := cell_below (B) k1; replace k2 := cell_below (B) k2; clear B))
  have k_c0 := cell_regrown c0
  have k_c1 := cell_regrown c1
  have k_g0 := cell_regrown g0
  have k_g1 := cell_regrown g1
  have k_g2 := cell_regrown g2
  have k_k0 := cell_regrown k0
  have k_k1 := cell_regrown k1
  have k_k2 := cell_regrown k2
  refine wp_region_quiet_below (by kernel_rfl) (by kernel_rfl) ?_
  repeat (first | ((try simp only [List.getElem_toArray, List.getElem_cons_succ, List.getElem_cons_zero]); go_big_quiet_want; refine quiet_eloadT _ _ rfl rk_tr rfl (fun W hW => rangeAt_on Etr (below_regrown' hW)) HT.out rfl ?_; go_simp; go_big_quiet_on) | ((try simp only [List.getElem_toArray, List.getElem_cons_succ, List.getElem_cons_zero]); go_big_quiet_want; refine quiet_eload _ _ rfl rk_tr rfl (fun W hW => rangeAt_on Etr (below_regrown' hW)) rfl ?_; go_simp; go_big_quiet_on) | ((try simp only [List.getElem_toArray, List.getElem_cons_succ, List.getElem_cons_zero]); go_big_quiet_step ((first | (go_at_call 22; with_reducible exact Calls.regrown_of (CV.out _)) | (go_at_call 23; with_reducible exact Calls.regrown_of (CW.out _)) | (go_at_call 24; with_reducible exact Calls.regrown_of (CC.out _)) | (go_at_call 25; with_reducible exact Calls.regrown_of (CE.out _)) | (go_at_call 13; with_reducible exact Calls.regrown_of (example34_b _))))) | ((try simp only [List.getElem_toArray, List.getElem_cons_succ, List.getElem_cons_zero]); quiet_step ((first | (go_at_call 22; with_reducible exact Calls.regrown_of (CV.out _)) | (go_at_call 23; with_reducible exact Calls.regrown_of (CW.out _)) | (go_at_call 24; with_reducible exact Calls.regrown_of (CC.out _)) | (go_at_call 25; with_reducible exact Calls.regrown_of (CE.out _)) | (go_at_call 13; with_reducible exact Calls.regrown_of (example34_b _))))))
  refine wpQuiet_nil ?_
  intro W9 hw'
  have B9 := below_regrown' hw'
  clear hw' k_c0 k_c1 k_g0 k_g1 k_g2 k_k0 k_k1 k_k2
  replace Etr := rangeAt_on Etr (B9)
  replace c0 := cell_below (B9) c0
  replace c1 := cell_below (B9) c1
  replace g0 := cell_below (B9) g0
  replace g1 := cell_below (B9) g1
  replace g2 := cell_below (B9) g2
  replace k0 := cell_below (B9) k0
  replace k1 := cell_below (B9) k1
  replace k2 := cell_below (B9) k2
  replace BB := bon BB B9
  clear B9
  go_wp2
  go_ret
  exact ⟨rfl, BB⟩

theorem covers_walk (a b c : SV) (p : Int) (f : Bool) (px py : Int) (w : World) : Calls Try.prog 5 #[.agg #[.int .i64 a.x, .int .i64 a.y, .int .i64 a.z, .int .i64 a.q, .slice a.A a.n a.c, .int .i64 b.x, .int .i64 b.y, .int .i64 b.z, .int .i64 b.q, .slice b.A b.n b.c, .int .i64 c.x, .int .i64 c.y, .int .i64 c.z, .int .i64 c.q, .slice c.A c.n c.c, .int .i64 p, .bool f], .agg #[.int .i64 px, .int .i64 py]] w fun e w' => e = .returned (.bool true) ∧ Below w.heap.size w w' := by
  cases hv : trv a b c
  · exact covers_case a b c p f px py _ _ _ _ 0 0 0 0 false _ rfl hv rfl (by unfold bds; rw [hv]; rfl) w
  · exact covers_case a b c p f px py _ _ _ _ _ _ _ _ true _ rfl hv rfl (by unfold bds; rw [hv]; rfl) w

end Go.Proofs.Ytmmhnhjipbecdaa
