/- The example at the end of the laws of images. -/
import Derived.Test.YtlnbkahpklnfaaaI16
import Derived.Test.YtlnbkahpklnfaaaIR
import Derived.Test.YtlnbkahpklnfaaaOpenI
namespace Go.Proofs.Ytlnbkahpklnfaaa
open Go.RowKit Go.Sort

theorem ex_new : newI 2 2 1 = (⟨2, 2, 1, [0, 0, 0, 0, 0, 0, 0, 0]⟩, 0) := by decide +kernel
theorem ex_set : (Im.mk 2 2 1 [0, 0, 0, 0, 0, 0, 0, 0]).set 1 0 65536 0 0 65536 = ⟨2, 2, 1, [0, 0, 0, 0, 255, 0, 0, 255]⟩ := by decide +kernel
theorem ex_off : (Im.mk 2 2 1 [0, 0, 0, 0, 255, 0, 0, 255]).off 1 0 = 4 := by decide +kernel
theorem ex_get0 : ∀ i, i < 4 → (Im.mk 2 2 1 [0, 0, 0, 0, 0, 0, 0, 0]).get 0 0 i = 0 ∧ (Im.mk 2 2 1 [0, 0, 0, 0, 0, 0, 0, 0]).get (-1) 0 i = 0 := by decide +kernel
theorem ex_get1 : (Im.mk 2 2 1 [0, 0, 0, 0, 255, 0, 0, 255]).get 1 0 0 = 65536 ∧ (Im.mk 2 2 1 [0, 0, 0, 0, 255, 0, 0, 255]).get 1 0 1 = 0 ∧ (Im.mk 2 2 1 [0, 0, 0, 0, 255, 0, 0, 255]).get 1 0 2 = 0 ∧ (Im.mk 2 2 1 [0, 0, 0, 0, 255, 0, 0, 255]).get 1 0 3 = 65536 := by decide +kernel

set_option maxRecDepth 100000 in
set_option maxHeartbeats 1000000 in
theorem iexample_b (w : World) : Calls Try.prog 20 #[] w fun e w' => e = .returned (.bool true) ∧ Below w.heap.size w w' := by
  have c1 := fun W => pnew_b 2 2 1 W
  rw [ex_new] at c1
  have c2 := fun A n c W R hc => pget_b 2 2 1 A n c [0, 0, 0, 0, 0, 0, 0, 0] 0 0 W R hc
  have c3 := fun A n c W R hc => pget_b 2 2 1 A n c [0, 0, 0, 0, 0, 0, 0, 0] (-1) 0 W R hc
  unfold GivesV at c2 c3
  rw [(ex_get0 0 (by omega)).1, (ex_get0 1 (by omega)).1, (ex_get0 2 (by omega)).1, (ex_get0 3 (by omega)).1] at c2
  rw [(ex_get0 0 (by omega)).2, (ex_get0 1 (by omega)).2, (ex_get0 2 (by omega)).2, (ex_get0 3 (by omega)).2] at c3
  have c4 := fun A n c W R hn => pset_b 2 2 1 A n c [0, 0, 0, 0, 0, 0, 0, 0] 1 0 65536 0 0 65536 W R hn
  rw [ex_set] at c4
  have c5 := fun A n c W hl => poff_b 2 2 1 A n c [0, 0, 0, 0, 255, 0, 0, 255] 1 0 W hl
  rw [ex_off] at c5
  have c6 := fun A n c W R hc => pget_b 2 2 1 A n c [0, 0, 0, 0, 255, 0, 0, 255] 1 0 W R hc
  unfold GivesV at c6
  rw [ex_get1.1, ex_get1.2.1, ex_get1.2.2.1, ex_get1.2.2.2] at c6
  have e8 : ([0, 0, 0, 0, 0, 0, 0, 0] : List Int).length = 8 := rfl
  have f8 : ([0, 0, 0, 0, 255, 0, 0, 255] : List Int).length = 8 := rfl
  obtain ⟨Z, hZ⟩ : ∃ Z : List Int, [0, 0, 0, 0, 0, 0, 0, 0] = Z := ⟨_, rfl⟩
  obtain ⟨L, hL⟩ : ∃ Z : List Int, [0, 0, 0, 0, 255, 0, 0, 255] = Z := ⟨_, rfl⟩
  rw [hZ] at c1 c2 c3 c4 e8
  rw [hL] at c4 c5 c6 f8
  have C1 := Lib.hid c1
  have C2 := Lib.hid c2
  have C3 := Lib.hid c3
  have C4 := Lib.hid c4
  have C5 := Lib.hid c5
  have C6 := Lib.hid c6
  have E8 := Lib.hid e8
  have F8 := Lib.hid f8
  clear c1 c2 c3 c4 c5 c6 e8 f8 hZ hL
  go_enter Try.func20, Try.ntmps20
  go_wp2_with (first
    | (go_at_call 23; (with_reducible refine (C1.out _).mono ?_); rintro _ W1 ⟨A1, n1, d1, rfl, own1, B1⟩; obtain rfl : n1 = 8 := (by rw [← own1.len]; exact E8.out); have bx := box_below W1 #[.int .i64 2, .int .i64 2, .int .i64 1, .slice A1 8 d1] 25; obtain ⟨⟨i0, i1, i2, i3⟩, _⟩ := IBox.made W1 2 2 1 A1 8 d1 25; have BB := bon B1 bx; have hr1 := own1.room; have K1 := Lib.hid (own1.on bx).rd; clear own1 bx B1)
    | (go_at_call 15; (with_reducible refine (C2.out _ _ _ _ K1.out hr1).mono ?_); rintro _ W2 ⟨rfl, B⟩; replace i0 := cell_below B i0; replace i1 := cell_below B i1; replace i2 := cell_below B i2; replace i3 := cell_below B i3; replace K1 := Lib.hid (K1.out.on B); replace BB := bon BB B; clear B)
    | (go_at_call 15; (with_reducible refine (C3.out _ _ _ _ K1.out hr1).mono ?_); rintro _ W2 ⟨rfl, B⟩; replace i0 := cell_below B i0; replace i1 := cell_below B i1; replace i2 := cell_below B i2; replace i3 := cell_below B i3; replace K1 := Lib.hid (K1.out.on B); replace BB := bon BB B; clear B)
    | (go_at_call 18; (with_reducible refine (C4.out _ _ _ _ K1.out (by omega)).mono ?_); rintro _ W3 ⟨A3, n3, d3, rfl, own3, B3⟩; obtain rfl : n3 = 8 := (by rw [← own3.len]; exact F8.out); have bx := box_below W3 #[.int .i64 2, .int .i64 2, .int .i64 1, .slice A3 8 d3] 25; obtain ⟨⟨j0, j1, j2, j3⟩, _⟩ := IBox.made W3 2 2 1 A3 8 d3 25; replace BB := bon (bon BB B3) bx; have hr3 := own3.room; have K3 := Lib.hid (own3.on bx).rd; clear own3 bx B3 i0 i1 i2 i3)
    | (go_at_call 13; (with_reducible refine (C5.out _ _ _ _ F8.out).mono ?_); rintro _ W2 ⟨rfl, B⟩; replace j0 := cell_below B j0; replace j1 := cell_below B j1; replace j2 := cell_below B j2; replace j3 := cell_below B j3; replace K3 := Lib.hid (K3.out.on B); replace BB := bon BB B; clear B)
    | (go_at_call 15; (with_reducible refine (C6.out _ _ _ _ K3.out hr3).mono ?_); rintro _ W2 ⟨rfl, B⟩; replace j0 := cell_below B j0; replace j1 := cell_below B j1; replace j2 := cell_below B j2; replace j3 := cell_below B j3; replace K3 := Lib.hid (K3.out.on B); replace BB := bon BB B; clear B))
  go_ret
  exact ⟨rfl, BB⟩

end Go.Proofs.Ytlnbkahpklnfaaa

/- The walk of ImageRobust. -/
namespace Go.Proofs.Ytlnbkahpklnfaaa
open Go.RowKit Go.Sort

set_option maxRecDepth 100000 in
set_option maxHeartbeats 2000000 in
theorem robust_walk (f wd ht : Int) (A : Option Addr) (n c : Nat) (l : List Int) (x y x0 x1 x2 x3 : Int) (w : World) (R : Rd w w.heap.size .u8 A n l) (hc : n ≤ c) (hn : n ≤ 140737488351232) :
    Calls Try.prog 3 #[.agg #[.int .i64 f, .int .i64 wd, .int .i64 ht, .slice A n c], .agg #[.int .i64 x, .int .i64 y], .agg #[.int .i64 x0, .int .i64 x1, .int .i64 x2, .int .i64 x3]] w fun e w' => e = .returned (.bool true) ∧ Below w.heap.size w w' := by
  have z1 : (w.alloc (.cells #[.int .i64 f, .int .i64 wd, .int .i64 ht, .slice A n c] 25)).heap.size = w.heap.size + 1 := by simp
  have z2 : ((w.alloc (.cells #[.int .i64 f, .int .i64 wd, .int .i64 ht, .slice A n c] 25)).alloc (.cells #[.int .i64 x, .int .i64 y] 26)).heap.size = w.heap.size + 2 := by simp
  have hsz : (((w.alloc (.cells #[.int .i64 f, .int .i64 wd, .int .i64 ht, .slice A n c] 25)).alloc (.cells #[.int .i64 x, .int .i64 y] 26)).alloc (.cells #[.int .i64 x0, .int .i64 x1, .int .i64 x2, .int .i64 x3] 28)).heap.size = w.heap.size + 3 := by simp
  have b0 := box_below w #[.int .i64 f, .int .i64 wd, .int .i64 ht, .slice A n c] 25
  have b1 := box_below (w.alloc (.cells #[.int .i64 f, .int .i64 wd, .int .i64 ht, .slice A n c] 25)) #[.int .i64 x, .int .i64 y] 26
  have b2 := box_below ((w.alloc (.cells #[.int .i64 f, .int .i64 wd, .int .i64 ht, .slice A n c] 25)).alloc (.cells #[.int .i64 x, .int .i64 y] 26)) #[.int .i64 x0, .int .i64 x1, .int .i64 x2, .int .i64 x3] 28
  have D0 := ((IBox.made w f wd ht A n c 25).on b1).on b2 |>.1
  have d0 : (((w.alloc (.cells #[.int .i64 f, .int .i64 wd, .int .i64 ht, .slice A n c] 25)).alloc (.cells #[.int .i64 x, .int .i64 y] 26)).alloc (.cells #[.int .i64 x0, .int .i64 x1, .int .i64 x2, .int .i64 x3] 28)).cell? ⟨w.heap.size + 1, 0, none⟩ = some (.int .i64 x) := by rw [← z1]; exact cell_below b2 (box_cell _ _ _ 0 _ rfl)
  have d1 : (((w.alloc (.cells #[.int .i64 f, .int .i64 wd, .int .i64 ht, .slice A n c] 25)).alloc (.cells #[.int .i64 x, .int .i64 y] 26)).alloc (.cells #[.int .i64 x0, .int .i64 x1, .int .i64 x2, .int .i64 x3] 28)).cell? ⟨w.heap.size + 1, 1, none⟩ = some (.int .i64 y) := by rw [← z1]; exact cell_below b2 (box_cell _ _ _ 1 _ rfl)
  have V0 := (VBox.made ((w.alloc (.cells #[.int .i64 f, .int .i64 wd, .int .i64 ht, .slice A n c] 25)).alloc (.cells #[.int .i64 x, .int .i64 y] 26)) x0 x1 x2 x3 28).1
  rw [z2] at V0
  have BB := bon (bon b0 b1) b2
  have K1 : Rd (((w.alloc (.cells #[.int .i64 f, .int .i64 wd, .int .i64 ht, .slice A n c] 25)).alloc (.cells #[.int .i64 x, .int .i64 y] 26)).alloc (.cells #[.int .i64 x0, .int .i64 x1, .int .i64 x2, .int .i64 x3] 28)) (((w.alloc (.cells #[.int .i64 f, .int .i64 wd, .int .i64 ht, .slice A n c] 25)).alloc (.cells #[.int .i64 x, .int .i64 y] 26)).alloc (.cells #[.int .i64 x0, .int .i64 x1, .int .i64 x2, .int .i64 x3] 28)).heap.size .u8 A n l := R.on BB
  clear b0 b1 b2 z1 z2
  have hln := R.len
  have cv := fun W => pvalid_b f wd ht A n c l W hln
  have crv := fun W => rivalid_b f wd ht A n c l W hln
  have co := fun W => poff_b f wd ht A n c l x y W hln
  have cro := fun W => rioff_b f wd ht A n c l x y W hln
  have cg := fun W R => pget_b f wd ht A n c l x y W R hc
  have crg := fun W R => riget_b f wd ht A n c l x y W R hc
  unfold GivesV at cg crg
  have cs := fun W R => pset_b f wd ht A n c l x y x0 x1 x2 x3 W R hn
  have crs := fun A n c W R hn => riset_b f wd ht A n c l x y x0 x1 x2 x3 W R hn
  have sf : ((Im.mk f wd ht l).set x y x0 x1 x2 x3).f = f ∧ ((Im.mk f wd ht l).set x y x0 x1 x2 x3).w = wd ∧ ((Im.mk f wd ht l).set x y x0 x1 x2 x3).h = ht := by unfold Im.set; split <;> exact ⟨rfl, rfl, rfl⟩
  unfold GivesIO at cs crs
  rw [sf.1, sf.2.1, sf.2.2] at cs crs
  obtain ⟨S, hS⟩ : ∃ S, ((Im.mk f wd ht l).set x y x0 x1 x2 x3).l = S := ⟨_, rfl⟩
  rw [hS] at cs crs
  obtain ⟨ok, hok⟩ : ∃ ok, decide (Im.mk f wd ht l).ok = ok := ⟨_, rfl⟩
  rw [hok] at cv crv
  obtain ⟨z, hz⟩ : ∃ z, (Im.mk f wd ht l).off x y = z := ⟨_, rfl⟩
  rw [hz] at co cro
  obtain ⟨g, hg⟩ : ∃ g, (Im.mk f wd ht l).get x y = g := ⟨_, rfl⟩
  rw [hg] at cg crg
  have CV := Lib.hid cv
  have CRV := Lib.hid crv
  have CO := Lib.hid co
  have CRO := Lib.hid cro
  have CG := Lib.hid cg
  have CRG := Lib.hid crg
  have CS := Lib.hid cs
  have CRS := Lib.hid crs
  have CC := Lib.hid (fun W R => riclone_b f wd ht A n c l W R hn)
  have HLN := Lib.hid hln
  clear cv crv co cro cg crg cs crs sf hS hok hz hg hln R
  go_enter Try.func3, Try.ntmps3
  go_wp2_with fail
  have k_d0 := cell_regrown d0
  have k_d1 := cell_regrown d1
  refine wp_region_quiet_below (by kernel_rfl) (by kernel_rfl) ?_
  repeat (first | (go_big_quiet_want; refine quiet_iload _ _ rfl imgT (fun W hW => IAt.on D0 (below_regrown' hW)) rfl ?_; go_simp; go_big_quiet_on) | (go_big_quiet_want; refine quiet_vload _ _ rfl vecT (fun W hW => VecAt.on V0 (below_regrown' hW)) rfl ?_; go_simp; go_big_quiet_on) | go_big_quiet_step ((first | fail)) | quiet_step ((first | fail)))
  refine wpQuiet_nil ?_
  intro W hw'
  have B := below_regrown' hw'
  clear hw' k_d0 k_d1
  replace BB := bon BB B
  replace D0 := IAt.on D0 B
  replace d0 := cell_below B d0
  replace d1 := cell_below B d1
  replace V0 := VecAt.on V0 B
  replace K1 := Rd.on K1 B
  go_wp2_with (first
    | (refine wpList_iload rfl _ _ rfl imgT D0 rfl ?_)
    | (go_at_call 10; (with_reducible refine (CC.out _ K1).mono ?_); rintro _ W1 ⟨A9, n9, c9, rfl, own9, B⟩; (replace BB := bon BB B; replace D0 := IAt.on D0 B; replace d0 := cell_below B d0; replace d1 := cell_below B d1; replace V0 := VecAt.on V0 B; replace K1 := Rd.on K1 B)))
  obtain rfl : n9 = n := by rw [← own9.len]; exact HLN.out
  have bx := box_below W1 #[.int .i64 f, .int .i64 wd, .int .i64 ht, .slice A9 n9 c9] 25
  have D9 := (IBox.made W1 f wd ht A9 n9 c9 25).1
  have K9 := (own9.on bx).rd
  have hc9 := own9.room
  replace D0 := IAt.on D0 bx
  replace V0 := VecAt.on V0 bx
  replace d0 := cell_below bx d0
  replace d1 := cell_below bx d1
  replace K1 := K1.on bx
  replace BB := bon BB bx
  clear bx own9 B
  have k_d0 := cell_regrown d0
  have k_d1 := cell_regrown d1
  refine wp_region_quiet_below (by kernel_rfl) (by kernel_rfl) ?_
  repeat (first | (go_big_quiet_want; refine quiet_iload _ _ rfl imgT (fun W hW => IAt.on D0 (below_regrown' hW)) rfl ?_; go_simp; go_big_quiet_on) | (go_big_quiet_want; refine quiet_iload _ _ rfl imgT (fun W hW => IAt.on D9 (below_regrown' hW)) rfl ?_; go_simp; go_big_quiet_on) | (go_big_quiet_want; refine quiet_vload _ _ rfl vecT (fun W hW => VecAt.on V0 (below_regrown' hW)) rfl ?_; go_simp; go_big_quiet_on) | go_big_quiet_step ((first | (go_at_call 11; exact Calls.regrown_of (CV.out _)) | (go_at_call 12; exact Calls.regrown_of (CRV.out _)) | (go_at_call 13; exact Calls.regrown_of (CO.out _)) | (go_at_call 14; exact Calls.regrown_of (CRO.out _)) | (go_at_call 15; exact Calls.regrown_of (CG.out _ (K1.on (below_regrown _ _ _)))) | (go_at_call 16; exact Calls.regrown_of (CRG.out _ (K1.on (below_regrown _ _ _)))))) | quiet_step ((first | (go_at_call 11; exact Calls.regrown_of (CV.out _)) | (go_at_call 12; exact Calls.regrown_of (CRV.out _)) | (go_at_call 13; exact Calls.regrown_of (CO.out _)) | (go_at_call 14; exact Calls.regrown_of (CRO.out _)) | (go_at_call 15; exact Calls.regrown_of (CG.out _ (K1.on (below_regrown _ _ _)))) | (go_at_call 16; exact Calls.regrown_of (CRG.out _ (K1.on (below_regrown _ _ _)))))))
  refine wpQuiet_nil ?_
  intro W hw'
  have B := below_regrown' hw'
  clear hw' k_d0 k_d1
  replace BB := bon BB B
  replace D0 := IAt.on D0 B
  replace D9 := IAt.on D9 B
  replace d0 := cell_below B d0
  replace d1 := cell_below B d1
  replace V0 := VecAt.on V0 B
  replace K1 := Rd.on K1 B
  replace K9 := Rd.on K9 B
  go_wp2
  refine wp_region_treeC (fun W => IAt W w.heap.size f wd ht A n9 c ∧ VecAt W (w.heap.size + 2) x0 x1 x2 x3 ∧ IAt W W1.heap.size f wd ht A9 n9 c9) (.read 0 (.read 1 (.read 2 (.read 3 (.read 5 (.read 6 (.read 7 (.read 8 (.fork1 4 (.fork1 9 (.fork1 10 (.read 11 (.read 12 (.read 13 (.fork1 14 (.read 15 (.read 16 (.fork1 17 (.read 18 (.read 19 (.nil))))))))))))))))))))) (by kernel_rfl) (by kernel_rfl) (fun W hB => ⟨D0.on hB, V0.on hB, D9.on hB⟩) ?_
  intro V1 B
  (replace BB := bon BB B; replace D0 := IAt.on D0 B; replace D9 := IAt.on D9 B; replace d0 := cell_below B d0; replace d1 := cell_below B d1; replace V0 := VecAt.on V0 B; replace K1 := Rd.on K1 B; replace K9 := Rd.on K9 B)
  clear B
  refine tree_read rfl ?_
  refine wpQuiet_step (fun K hK => ?_)
  rw [if_pos (by rfl)]
  refine quiet_iload _ _ rfl imgT (fun W hW => hW.1) rfl ?_
  go_simp
  refine hK _ ?_
  clear hK K
  refine wpQuiet_nil ?_
  refine tree_read rfl ?_
  refine wpQuiet_step (fun K hK => ?_)
  rw [if_pos (by rfl)]
  first | refine quiet_move _ rfl ?_ | refine quiet_assign _ rfl ?_
  go_simp
  refine hK _ ?_
  clear hK K
  refine wpQuiet_nil ?_
  refine tree_read rfl ?_
  refine wpQuiet_step (fun K hK => ?_)
  rw [if_pos (by rfl)]
  first | refine quiet_move _ rfl ?_ | refine quiet_assign _ rfl ?_
  go_simp
  refine hK _ ?_
  clear hK K
  refine wpQuiet_nil ?_
  refine tree_read rfl ?_
  refine wpQuiet_step (fun K hK => ?_)
  rw [if_pos (by rfl)]
  refine quiet_vload _ _ rfl vecT (fun W hW => hW.2.1) rfl ?_
  go_simp
  refine hK _ ?_
  clear hK K
  refine wpQuiet_nil ?_
  refine tree_read rfl ?_
  refine wpQuiet_step (fun K hK => ?_)
  rw [if_pos (by rfl)]
  refine quiet_iload _ _ rfl imgT (fun W hW => hW.2.2) rfl ?_
  go_simp
  refine hK _ ?_
  clear hK K
  refine wpQuiet_nil ?_
  refine tree_read rfl ?_
  refine wpQuiet_step (fun K hK => ?_)
  rw [if_pos (by rfl)]
  first | refine quiet_move _ rfl ?_ | refine quiet_assign _ rfl ?_
  go_simp
  refine hK _ ?_
  clear hK K
  refine wpQuiet_nil ?_
  refine tree_read rfl ?_
  refine wpQuiet_step (fun K hK => ?_)
  rw [if_pos (by rfl)]
  first | refine quiet_move _ rfl ?_ | refine quiet_assign _ rfl ?_
  go_simp
  refine hK _ ?_
  clear hK K
  refine wpQuiet_nil ?_
  refine tree_read rfl ?_
  refine wpQuiet_step (fun K hK => ?_)
  rw [if_pos (by rfl)]
  refine quiet_vload _ _ rfl vecT (fun W hW => hW.2.1) rfl ?_
  go_simp
  refine hK _ ?_
  clear hK K
  refine wpQuiet_nil ?_
  refine tree_one rfl ?_
  go_wp2_with (go_at_call 18; (with_reducible refine (CS.out _ K1).mono ?_); rintro _ V4 ⟨A4, n4, c4, rfl, own4, B⟩; (replace BB := bon BB B; replace D0 := IAt.on D0 B; replace D9 := IAt.on D9 B; replace d0 := cell_below B d0; replace d1 := cell_below B d1; replace V0 := VecAt.on V0 B; replace K1 := Rd.on K1 B; replace K9 := Rd.on K9 B); clear B; have K4 := own4.rd; clear own4)
  refine ⟨⟨D0, V0, D9⟩, ?_⟩
  refine tree_one rfl ?_
  go_wp2_with (go_at_call 19; (with_reducible refine (CRS.out _ _ _ _ K9 hn).mono ?_); rintro _ V5 ⟨A5, n5, c5, rfl, own5, B⟩; (replace BB := bon BB B; replace D0 := IAt.on D0 B; replace D9 := IAt.on D9 B; replace d0 := cell_below B d0; replace d1 := cell_below B d1; replace V0 := VecAt.on V0 B; replace K1 := Rd.on K1 B; replace K9 := Rd.on K9 B); replace K4 := K4.on B; clear B; have K5 := own5.rd; clear own5)
  refine ⟨⟨D0, V0, D9⟩, ?_⟩
  refine tree_one rfl ?_
  go_wp2_with (go_at_call 17; (with_reducible refine (riequal_b f wd ht A4 A5 n4 n5 c4 c5 S _ K4 K5).mono ?_); rintro _ V6 ⟨rfl, B⟩; (replace BB := bon BB B; replace D0 := IAt.on D0 B; replace D9 := IAt.on D9 B; replace d0 := cell_below B d0; replace d1 := cell_below B d1; replace V0 := VecAt.on V0 B; replace K1 := Rd.on K1 B; replace K9 := Rd.on K9 B); clear B K4 K5)
  refine ⟨⟨D0, V0, D9⟩, ?_⟩
  refine tree_read rfl ?_
  refine wpQuiet_step (fun K hK => ?_)
  rw [if_pos (by rfl)]
  first | refine quiet_move _ rfl ?_ | refine quiet_assign _ rfl ?_
  go_simp
  refine hK _ ?_
  clear hK K
  refine wpQuiet_nil ?_
  refine tree_read rfl ?_
  refine wpQuiet_step (fun K hK => ?_)
  rw [if_pos (by rfl)]
  refine quiet_iload _ _ rfl imgT (fun W hW => hW.1) rfl ?_
  go_simp
  refine hK _ ?_
  clear hK K
  refine wpQuiet_nil ?_
  refine tree_read rfl ?_
  refine wpQuiet_step (fun K hK => ?_)
  rw [if_pos (by rfl)]
  refine quiet_iload _ _ rfl imgT (fun W hW => hW.2.2) rfl ?_
  go_simp
  refine hK _ ?_
  clear hK K
  refine wpQuiet_nil ?_
  refine tree_one rfl ?_
  go_wp2_with (go_at_call 17; (with_reducible refine (riequal_b f wd ht A A9 n9 n9 c c9 l _ K1 K9).mono ?_); rintro _ V7 ⟨rfl, B⟩; (replace BB := bon BB B; replace D0 := IAt.on D0 B; replace D9 := IAt.on D9 B; replace d0 := cell_below B d0; replace d1 := cell_below B d1; replace V0 := VecAt.on V0 B; replace K1 := Rd.on K1 B; replace K9 := Rd.on K9 B); clear B)
  refine ⟨⟨D0, V0, D9⟩, ?_⟩
  refine tree_read rfl ?_
  refine wpQuiet_step (fun K hK => ?_)
  rw [if_pos (by rfl)]
  refine quiet_val (.bool true) (fun W hW => by simp [execOp, go_sem]) ?_
  go_simp
  refine hK _ ?_
  clear hK K
  refine wpQuiet_nil ?_
  refine tree_read rfl ?_
  refine wpQuiet_step (fun K hK => ?_)
  rw [if_pos (by rfl)]
  first | refine quiet_move _ rfl ?_ | refine quiet_assign _ rfl ?_
  go_simp
  refine hK _ ?_
  clear hK K
  refine wpQuiet_nil ?_
  refine tree_one rfl ?_
  go_wp2_with (go_at_call 20; (with_reducible refine (iexample_b _).mono ?_); rintro _ V8 ⟨rfl, B⟩; (replace BB := bon BB B; replace D0 := IAt.on D0 B; replace D9 := IAt.on D9 B; replace d0 := cell_below B d0; replace d1 := cell_below B d1; replace V0 := VecAt.on V0 B; replace K1 := Rd.on K1 B; replace K9 := Rd.on K9 B); clear B)
  refine ⟨⟨D0, V0, D9⟩, ?_⟩
  refine tree_read rfl ?_
  refine wpQuiet_step (fun K hK => ?_)
  rw [if_pos (by rfl)]
  refine quiet_val (.bool true) (fun W hW => by simp [execOp, go_sem]) ?_
  go_simp
  refine hK _ ?_
  clear hK K
  refine wpQuiet_nil ?_
  refine tree_read rfl ?_
  refine wpQuiet_step (fun K hK => ?_)
  rw [if_pos (by rfl)]
  first | refine quiet_move _ rfl ?_ | refine quiet_assign _ rfl ?_
  go_simp
  refine hK _ ?_
  clear hK K
  refine wpQuiet_nil ?_
  refine tree_nil ?_
  go_wp2
  go_ret
  exact ⟨rfl, BB⟩

end Go.Proofs.Ytlnbkahpklnfaaa
