/- The walk of ImageNew. -/
import Derived.Test.YtpcoihbchinckaaIW
namespace Go.Proofs.Ytpcoihbchinckaa
open Go.RowKit Go.Sort

theorem fill_shape (f wd ht : Int) (l : List Int) (x0 x1 x2 x3 : Int) : ((Im.mk f wd ht l).fill x0 x1 x2 x3).f = f ∧ ((Im.mk f wd ht l).fill x0 x1 x2 x3).w = wd ∧ ((Im.mk f wd ht l).fill x0 x1 x2 x3).h = ht := by
  unfold Im.fill
  split <;> exact ⟨rfl, rfl, rfl⟩

set_option maxRecDepth 100000 in
set_option maxHeartbeats 2000000 in
theorem new_walk (f wd ht : Int) (A : Option Addr) (n c : Nat) (l : List Int) (x y x0 x1 x2 x3 : Int) (w : World) (R : Rd w w.heap.size .u8 A n l) (hc : n ≤ c) (hn : n ≤ 140737488351232) :
    Calls Try.prog 5 #[.agg #[.int .i64 f, .int .i64 wd, .int .i64 ht, .slice A n c], .agg #[.int .i64 x, .int .i64 y], .agg #[.int .i64 x0, .int .i64 x1, .int .i64 x2, .int .i64 x3]] w fun e w' => e = .returned (.bool true) ∧ Below w.heap.size w w' := by
  have z1 : (w.alloc (.cells #[.int .i64 f, .int .i64 wd, .int .i64 ht, .slice A n c] 25)).heap.size = w.heap.size + 1 := by simp
  have z2 : ((w.alloc (.cells #[.int .i64 f, .int .i64 wd, .int .i64 ht, .slice A n c] 25)).alloc (.cells #[.int .i64 x, .int .i64 y] 26)).heap.size = w.heap.size + 2 := by simp
  have hsz : (((w.alloc (.cells #[.int .i64 f, .int .i64 wd, .int .i64 ht, .slice A n c] 25)).alloc (.cells #[.int .i64 x, .int .i64 y] 26)).alloc (.cells #[.int .i64 x0, .int .i64 x1, .int .i64 x2, .int .i64 x3] 28)).heap.size = w.heap.size + 3 := by simp
  have b0 := box_below w #[.int .i64 f, .int .i64 wd, .int .i64 ht, .slice A n c] 25
  have b1 := box_below (w.alloc (.cells #[.int .i64 f, .int .i64 wd, .int .i64 ht, .slice A n c] 25)) #[.int .i64 x, .int .i64 y] 26
  have b2 := box_below ((w.alloc (.cells #[.int .i64 f, .int .i64 wd, .int .i64 ht, .slice A n c] 25)).alloc (.cells #[.int .i64 x, .int .i64 y] 26)) #[.int .i64 x0, .int .i64 x1, .int .i64 x2, .int .i64 x3] 28
  have D0 := ((IBox.made w f wd ht A n c 25).on b1).on b2 |>.1
  have d0 : (((w.alloc (.cells #[.int .i64 f, .int .i64 wd, .int .i64 ht, .slice A n c] 25)).alloc (.cells #[.int .i64 x, .int .i64 y] 26)).alloc (.cells #[.int .i64 x0, .int .i64 x1, .int .i64 x2, .int .i64 x3] 28)).cell? ⟨w.heap.size + 1, 0, none⟩ = some (.int .i64 x) := by rw [← z1]; exact cell_below b2 (box_cell _ _ _ 0 _ rfl)
  have d1 : (((w.alloc (.cells #[.int .i64 f, .int .i64 wd, .int .i64 ht, .slice A n c] 25)).alloc (.cells #[.int .i64 x, .int .i64 y] 26)).alloc (.cells #[.int .i64 x0, .int .i64 x1, .int .i64 x2, .int .i64 x3] 28)).cell? ⟨w.heap.size + 1, 1, none⟩ = some (.int .i64 y) := by rw [← z1]; exact cell_below b2 (box_cell _ _ _ 1 _ rfl)
  have V0 := (VBox.made ((w.alloc (.cells #[.int .i64 f, .int .i64 wd, .int .i64 ht, .slice A n c] 25)).alloc (.cells #[.int .i64 x, .int .i64 y] 26)) x0 x1 x2 x3 28).1
  rw [z2] at V0
  have BB := bon (bon b0 b1) b2
  have K1 : Rd (((w.alloc (.cells #[.int .i64 f, .int .i64 wd, .int .i64 ht, .slice A n c] 25)).alloc (.cells #[.int .i64 x, .int .i64 y] 26)).alloc (.cells #[.int .i64 x0, .int .i64 x1, .int .i64 x2, .int .i64 x3] 28)) (((w.alloc (.cells #[.int .i64 f, .int .i64 wd, .int .i64 ht, .slice A n c] 25)).alloc (.cells #[.int .i64 x, .int .i64 y] 26)).alloc (.cells #[.int .i64 x0, .int .i64 x1, .int .i64 x2, .int .i64 x3] 28)).heap.size .u8 A n l := R.on BB
  clear b0 b1 b2 z1 z2
  have i0 := D0.1
  have hln := R.len
  have cn := fun W => pnew_b f x y W
  have crn := fun W => rinew_b f x y W
  obtain ⟨m, hm⟩ : ∃ m, newI f x y = m := ⟨_, rfl⟩
  rw [hm] at cn crn
  obtain ⟨⟨mf, mw, mh, ml⟩, me⟩ := m
  unfold GivesIOE at cn crn
  simp only at cn crn
  have hlen : ml.length ≤ 32768 := by
    unfold newI at hm
    split at hm
    · have := congrArg (fun q : Im × Int => q.1.l.length) hm
      simp only at this
      rw [← this]
      exact Nat.zero_le _
    · split at hm
      · rename_i hz hs
        have := congrArg (fun q : Im × Int => q.1.l.length) hm
        simp only at this
        rw [← this, List.length_replicate]
        obtain ⟨p, q, _, _, e1, e2, q0, q1⟩ := side_prod hs.1 hs.2 (nsz_le f)
        rw [e1, e2]
        omega
      · have := congrArg (fun q : Im × Int => q.1.l.length) hm
        simp only at this
        rw [← this]
        exact Nat.zero_le _
  have ch := fun W R => phash_b f wd ht A n c l W R
  have crh := fun W R => rihash_b f wd ht A n c l W R
  have ch2 := fun A n c W R => phash_b mf mw mh A n c ml W R
  have crh2 := fun A n c W R => rihash_b mf mw mh A n c ml W R
  obtain ⟨h1, hh1⟩ : ∃ z, (Im.mk f wd ht l).hash = z := ⟨_, rfl⟩
  obtain ⟨h2, hh2⟩ : ∃ z, (Im.mk mf mw mh ml).hash = z := ⟨_, rfl⟩
  rw [hh1] at ch crh
  rw [hh2] at ch2 crh2
  have cfl := fun W R => pfill_b f wd ht A n c l x0 x1 x2 x3 W R hn
  have crf := fun A n c W R hn => rifill_b f wd ht A n c l x0 x1 x2 x3 W R hn
  have sf := fill_shape f wd ht l x0 x1 x2 x3
  unfold GivesI at cfl
  unfold GivesIO at crf
  rw [sf.1, sf.2.1, sf.2.2] at cfl crf
  obtain ⟨S, hS⟩ : ∃ S, ((Im.mk f wd ht l).fill x0 x1 x2 x3).l = S := ⟨_, rfl⟩
  rw [hS] at cfl crf
  have CN := Lib.hid cn
  have CRN := Lib.hid crn
  have CH := Lib.hid ch
  have CRH := Lib.hid crh
  have CH2 := Lib.hid ch2
  have CRH2 := Lib.hid crh2
  have CF := Lib.hid cfl
  have CRF := Lib.hid crf
  have CC := Lib.hid (fun W R => riclone_b f wd ht A n c l W R hn)
  have CP := Lib.hid (fun W R => pclone_b f wd ht A n c l W R hn)
  have HLN := Lib.hid hln
  have HLM := Lib.hid hlen
  clear cn crn ch crh ch2 crh2 cfl crf sf hS hm hh1 hh2 hln hlen R
  go_enter Try.func5, Try.ntmps5
  go_wp2_with (first
    | (refine wpList_iload rfl _ _ rfl imgT D0 rfl ?_)
    | (go_at_call 23; (with_reducible refine (CN.out _).mono ?_); rintro _ W1 ⟨A2, n2, c2, rfl, own2, B⟩; (replace BB := bon BB B; replace D0 := IAt.on D0 B; replace d0 := cell_below B d0; replace d1 := cell_below B d1; replace V0 := VecAt.on V0 B; replace K1 := Rd.on K1 B); clear B; have bx := box_below W1 #[.int .i64 mf, .int .i64 mw, .int .i64 mh, .slice A2 n2 c2] 25; have D2 := (IBox.made W1 mf mw mh A2 n2 c2 25).1; have K2 := (own2.on bx).rd; clear own2; replace D0 := IAt.on D0 bx; replace V0 := VecAt.on V0 bx; replace d0 := cell_below bx d0; replace d1 := cell_below bx d1; replace K1 := K1.on bx; replace BB := bon BB bx; clear bx; replace i0 := D0.1)
    | (go_at_call 24; (with_reducible refine (CRN.out _).mono ?_); rintro _ W2 ⟨A3, n3, c3, rfl, own3, B⟩; (replace BB := bon BB B; replace D0 := IAt.on D0 B; replace d0 := cell_below B d0; replace d1 := cell_below B d1; replace V0 := VecAt.on V0 B; replace K1 := Rd.on K1 B); replace D2 := IAt.on D2 B; replace K2 := K2.on B; clear B; have bx := box_below W2 #[.int .i64 mf, .int .i64 mw, .int .i64 mh, .slice A3 n3 c3] 25; have D3 := (IBox.made W2 mf mw mh A3 n3 c3 25).1; have K3 := (own3.on bx).rd; clear own3; replace D0 := IAt.on D0 bx; replace D2 := IAt.on D2 bx; replace V0 := VecAt.on V0 bx; replace d0 := cell_below bx d0; replace d1 := cell_below bx d1; replace K1 := K1.on bx; replace K2 := K2.on bx; replace BB := bon BB bx; clear bx; replace i0 := D0.1))
  have hmf : True := trivial
  have k_d0 := cell_regrown d0
  have k_d1 := cell_regrown d1
  refine wp_region_quiet_below (by kernel_rfl) (by kernel_rfl) ?_
  repeat (first | (go_big_quiet_want; refine quiet_iload _ _ rfl imgT (fun W hW => IAt.on D0 (below_regrown' hW)) rfl ?_; go_simp; go_big_quiet_on) | (go_big_quiet_want; refine quiet_iload _ _ rfl imgT (fun W hW => IAt.on D2 (below_regrown' hW)) rfl ?_; go_simp; go_big_quiet_on) | (go_big_quiet_want; refine quiet_iload _ _ rfl imgT (fun W hW => IAt.on D3 (below_regrown' hW)) rfl ?_; go_simp; go_big_quiet_on) | (go_big_quiet_want; refine quiet_vload _ _ rfl vecT (fun W hW => VecAt.on V0 (below_regrown' hW)) rfl ?_; go_simp; go_big_quiet_on) | go_big_quiet_step ((first | (go_at_call 17; exact Calls.regrown_of (riequal_b mf mw mh A2 A3 n2 n3 c2 c3 ml _ (K2.on (below_regrown _ _ _)) (K3.on (below_regrown _ _ _)))) | (go_at_call 25; with_reducible exact Calls.regrown_of (CH.out _ (K1.on (below_regrown _ _ _)))) | (go_at_call 26; with_reducible exact Calls.regrown_of (CRH.out _ (K1.on (below_regrown _ _ _)))) | (go_at_call 25; with_reducible exact Calls.regrown_of (CH2.out A2 n2 c2 _ (K2.on (below_regrown _ _ _)))) | (go_at_call 26; with_reducible exact Calls.regrown_of (CRH2.out A3 n3 c3 _ (K3.on (below_regrown _ _ _)))))) | quiet_step ((first | (go_at_call 17; exact Calls.regrown_of (riequal_b mf mw mh A2 A3 n2 n3 c2 c3 ml _ (K2.on (below_regrown _ _ _)) (K3.on (below_regrown _ _ _)))) | (go_at_call 25; with_reducible exact Calls.regrown_of (CH.out _ (K1.on (below_regrown _ _ _)))) | (go_at_call 26; with_reducible exact Calls.regrown_of (CRH.out _ (K1.on (below_regrown _ _ _)))) | (go_at_call 25; with_reducible exact Calls.regrown_of (CH2.out A2 n2 c2 _ (K2.on (below_regrown _ _ _)))) | (go_at_call 26; with_reducible exact Calls.regrown_of (CRH2.out A3 n3 c3 _ (K3.on (below_regrown _ _ _)))))))
  refine wpQuiet_nil ?_
  intro W hw'
  have B := below_regrown' hw'
  clear hw' k_d0 k_d1
  replace BB := bon BB B
  replace D0 := IAt.on D0 B
  replace D2 := IAt.on D2 B
  replace D3 := IAt.on D3 B
  replace d0 := cell_below B d0
  replace d1 := cell_below B d1
  replace V0 := VecAt.on V0 B
  replace K1 := Rd.on K1 B
  replace K2 := Rd.on K2 B
  replace K3 := Rd.on K3 B
  clear d0 d1 i0 D2 D3 K2 K3
  go_wp2_with (first
    | (refine wpList_iload rfl _ _ rfl imgT D0 rfl ?_)
    | (go_at_call 10; (with_reducible refine (CC.out _ K1).mono ?_); rintro _ W3 ⟨A9, n9, c9, rfl, own9, B⟩; (replace BB := bon BB B; replace D0 := IAt.on D0 B; replace V0 := VecAt.on V0 B; replace K1 := Rd.on K1 B)))
  obtain rfl : n9 = n := by rw [← own9.len]; exact HLN.out
  have bx := box_below W3 #[.int .i64 f, .int .i64 wd, .int .i64 ht, .slice A9 n9 c9] 25
  have D9 := (IBox.made W3 f wd ht A9 n9 c9 25).1
  have K9 := (own9.on bx).rd
  replace D0 := IAt.on D0 bx
  replace V0 := VecAt.on V0 bx
  replace K1 := K1.on bx
  replace BB := bon BB bx
  clear bx own9 B
  refine wp_region_treeC (fun W => IAt W w.heap.size f wd ht A n9 c ∧ VecAt W (w.heap.size + 2) x0 x1 x2 x3 ∧ IAt W W3.heap.size f wd ht A9 n9 c9) (.read 0 (.read 1 (.read 3 (.read 4 (.fork1 2 (.fork1 5 (.fork1 6 (.read 7 (.read 8 (.read 10 (.fork1 9 (.fork1 11 (.read 12 (.read 13 (.read 14 (.read 15 (.fork1 16 (.read 17 (.read 18 (.fork1 19 (.read 20 (.read 21 (.nil))))))))))))))))))))))) (by kernel_rfl) (by kernel_rfl) (fun W hB => ⟨D0.on hB, V0.on hB, D9.on hB⟩) ?_
  intro V1 B
  (replace BB := bon BB B; replace D0 := IAt.on D0 B; replace D9 := IAt.on D9 B; replace V0 := VecAt.on V0 B; replace K1 := Rd.on K1 B; replace K9 := Rd.on K9 B)
  clear B
  refine tree_read rfl ?_
  refine wpQuiet_step (fun K hK => ?_)
  rw [if_pos (by rfl)]
  refine quiet_iload _ _ rfl imgT (fun W hW => hW.1) rfl ?_
  go_simp
  refine hK _ ?_
  clear hK K
  refine wpQuiet_nil ?_
  refine tree_read rfl ?_
  refine wpQuiet_step (fun K hK => ?_)
  rw [if_pos (by rfl)]
  refine quiet_vload _ _ rfl vecT (fun W hW => hW.2.1) rfl ?_
  go_simp
  refine hK _ ?_
  clear hK K
  refine wpQuiet_nil ?_
  refine tree_read rfl ?_
  refine wpQuiet_step (fun K hK => ?_)
  rw [if_pos (by rfl)]
  refine quiet_iload _ _ rfl imgT (fun W hW => hW.2.2) rfl ?_
  go_simp
  refine hK _ ?_
  clear hK K
  refine wpQuiet_nil ?_
  refine tree_read rfl ?_
  refine wpQuiet_step (fun K hK => ?_)
  rw [if_pos (by rfl)]
  refine quiet_vload _ _ rfl vecT (fun W hW => hW.2.1) rfl ?_
  go_simp
  refine hK _ ?_
  clear hK K
  refine wpQuiet_nil ?_
  refine tree_one rfl ?_
  go_wp2_with (go_at_call 27; (with_reducible refine (CF.out _ K1).mono ?_); rintro _ V4 ⟨A4, n4, c4, rfl, hc4, K4, B⟩; (replace BB := bon BB B; replace D0 := IAt.on D0 B; replace D9 := IAt.on D9 B; replace V0 := VecAt.on V0 B; replace K1 := Rd.on K1 B; replace K9 := Rd.on K9 B); clear B)
  refine ⟨⟨D0, V0, D9⟩, ?_⟩
  refine tree_one rfl ?_
  go_wp2_with (go_at_call 28; (with_reducible refine (CRF.out _ _ _ _ K9 hn).mono ?_); rintro _ V5 ⟨A5, n5, c5, rfl, own5, B⟩; (replace BB := bon BB B; replace D0 := IAt.on D0 B; replace D9 := IAt.on D9 B; replace V0 := VecAt.on V0 B; replace K1 := Rd.on K1 B; replace K9 := Rd.on K9 B); replace K4 := K4.on B; clear B; have K5 := own5.rd; clear own5)
  refine ⟨⟨D0, V0, D9⟩, ?_⟩
  refine tree_one rfl ?_
  go_wp2_with (go_at_call 17; (with_reducible refine (riequal_b f wd ht A4 A5 n4 n5 c4 c5 S _ K4 K5).mono ?_); rintro _ _ ⟨rfl, B⟩; (replace BB := bon BB B; replace D0 := IAt.on D0 B; replace D9 := IAt.on D9 B; replace V0 := VecAt.on V0 B; replace K1 := Rd.on K1 B; replace K9 := Rd.on K9 B); clear B K4 K5)
  refine ⟨⟨D0, V0, D9⟩, ?_⟩
  refine tree_read rfl ?_
  refine wpQuiet_step (fun K hK => ?_)
  rw [if_pos (by rfl)]
  first | refine quiet_move _ rfl ?_ | refine quiet_assign _ rfl ?_
  go_simp
  refine hK _ ?_
  clear hK K
  refine wpQuiet_nil ?_
  refine tree_read rfl ?_
  refine wpQuiet_step (fun K hK => ?_)
  rw [if_pos (by rfl)]
  refine quiet_iload _ _ rfl imgT (fun W hW => hW.1) rfl ?_
  go_simp
  refine hK _ ?_
  clear hK K
  refine wpQuiet_nil ?_
  refine tree_read rfl ?_
  refine wpQuiet_step (fun K hK => ?_)
  rw [if_pos (by rfl)]
  refine quiet_iload _ _ rfl imgT (fun W hW => hW.2.2) rfl ?_
  go_simp
  refine hK _ ?_
  clear hK K
  refine wpQuiet_nil ?_
  refine tree_one rfl ?_
  go_wp2_with (go_at_call 29; (with_reducible refine (CP.out _ K1).mono ?_); rintro _ V6 ⟨A6, n6, c6, rfl, own6, B⟩; (replace BB := bon BB B; replace D0 := IAt.on D0 B; replace D9 := IAt.on D9 B; replace V0 := VecAt.on V0 B; replace K1 := Rd.on K1 B; replace K9 := Rd.on K9 B); clear B; have K6 := own6.rd; clear own6)
  refine ⟨⟨D0, V0, D9⟩, ?_⟩
  refine tree_one rfl ?_
  go_wp2_with (go_at_call 17; (with_reducible refine (riequal_b f wd ht A6 A9 n6 n9 c6 c9 l _ K6 K9).mono ?_); rintro _ _ ⟨rfl, B⟩; (replace BB := bon BB B; replace D0 := IAt.on D0 B; replace D9 := IAt.on D9 B; replace V0 := VecAt.on V0 B; replace K1 := Rd.on K1 B; replace K9 := Rd.on K9 B); clear B K6)
  refine ⟨⟨D0, V0, D9⟩, ?_⟩
  refine tree_read rfl ?_
  refine wpQuiet_step (fun K hK => ?_)
  rw [if_pos (by rfl)]
  refine quiet_val (.bool true) (fun W hW => by simp [execOp, go_sem]) ?_
  go_simp
  refine hK _ ?_
  clear hK K
  refine wpQuiet_nil ?_
  refine tree_read rfl ?_
  refine wpQuiet_step (fun K hK => ?_)
  rw [if_pos (by rfl)]
  first | refine quiet_move _ rfl ?_ | refine quiet_assign _ rfl ?_
  go_simp
  refine hK _ ?_
  clear hK K
  refine wpQuiet_nil ?_
  refine tree_read rfl ?_
  refine wpQuiet_step (fun K hK => ?_)
  rw [if_pos (by rfl)]
  refine quiet_iload _ _ rfl imgT (fun W hW => hW.1) rfl ?_
  go_simp
  refine hK _ ?_
  clear hK K
  refine wpQuiet_nil ?_
  refine tree_read rfl ?_
  refine wpQuiet_step (fun K hK => ?_)
  rw [if_pos (by rfl)]
  refine quiet_iload _ _ rfl imgT (fun W hW => hW.2.2) rfl ?_
  go_simp
  refine hK _ ?_
  clear hK K
  refine wpQuiet_nil ?_
  refine tree_one rfl ?_
  go_wp2_with (go_at_call 17; (with_reducible refine (riequal_b f wd ht A A9 n9 n9 c c9 l _ K1 K9).mono ?_); rintro _ _ ⟨rfl, B⟩; (replace BB := bon BB B; replace D0 := IAt.on D0 B; replace D9 := IAt.on D9 B; replace V0 := VecAt.on V0 B; replace K1 := Rd.on K1 B; replace K9 := Rd.on K9 B); clear B)
  refine ⟨⟨D0, V0, D9⟩, ?_⟩
  refine tree_read rfl ?_
  refine wpQuiet_step (fun K hK => ?_)
  rw [if_pos (by rfl)]
  refine quiet_val (.bool true) (fun W hW => by simp [execOp, go_sem]) ?_
  go_simp
  refine hK _ ?_
  clear hK K
  refine wpQuiet_nil ?_
  refine tree_read rfl ?_
  refine wpQuiet_step (fun K hK => ?_)
  rw [if_pos (by rfl)]
  first | refine quiet_move _ rfl ?_ | refine quiet_assign _ rfl ?_
  go_simp
  refine hK _ ?_
  clear hK K
  refine wpQuiet_nil ?_
  refine tree_one rfl ?_
  go_wp2_with (go_at_call 20; (with_reducible refine (iexample_b _).mono ?_); rintro _ V8 ⟨rfl, B⟩; (replace BB := bon BB B; replace D0 := IAt.on D0 B; replace D9 := IAt.on D9 B; replace V0 := VecAt.on V0 B; replace K1 := Rd.on K1 B; replace K9 := Rd.on K9 B); clear B)
  refine ⟨⟨D0, V0, D9⟩, ?_⟩
  refine tree_read rfl ?_
  refine wpQuiet_step (fun K hK => ?_)
  rw [if_pos (by rfl)]
  refine quiet_val (.bool true) (fun W hW => by simp [execOp, go_sem]) ?_
  go_simp
  refine hK _ ?_
  clear hK K
  refine wpQuiet_nil ?_
  refine tree_read rfl ?_
  refine wpQuiet_step (fun K hK => ?_)
  rw [if_pos (by rfl)]
  first | refine quiet_move _ rfl ?_ | refine quiet_assign _ rfl ?_
  go_simp
  refine hK _ ?_
  clear hK K
  refine wpQuiet_nil ?_
  refine tree_nil ?_
  go_wp2
  go_ret
  exact ⟨rfl, BB⟩

end Go.Proofs.Ytpcoihbchinckaa
