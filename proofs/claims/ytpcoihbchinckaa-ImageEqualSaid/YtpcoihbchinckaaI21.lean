/- The walk of ImageFillUniform. -/
import Derived.Test.YtpcoihbchinckaaI20
namespace Go.Proofs.Ytpcoihbchinckaa
open Go.RowKit Go.Sort

theorem rpL_part (b : List Int) (k i : Nat) (h : i < k) : part (rpL b k) (i * b.length) b.length = b := by
  obtain ⟨j, rfl⟩ : ∃ j, k = i + 1 + j := ⟨k - i - 1, by omega⟩
  unfold part
  rw [rpL_add, rpL, List.append_assoc, List.drop_left' (by rw [rpL_len]), List.take_left' rfl]

theorem Im.fill_ok {m : Im} (h : m.ok) (c0 c1 c2 c3 : Int) : (Im.mk m.f m.w m.h (rpL (enc m.f c0 c1 c2 c3) (m.w * m.h).toNat)).ok := by
  obtain ⟨h1, h2, h3, h4⟩ := h
  refine ⟨h1, h2, h3, ?_⟩
  show (((rpL (enc m.f c0 c1 c2 c3) (m.w * m.h).toNat).length : Nat) : Int) = m.w * m.h * nsz m.f
  have hp : 0 ≤ m.w * m.h := Int.mul_nonneg (by omega) (by omega)
  rw [rpL_len, enc_len, Int.natCast_mul, Int.toNat_of_nonneg hp]

theorem Im.fill_get {m : Im} (h : m.ok) (c0 c1 c2 c3 u v : Int) (k : m.ins u v) (i : Nat) : (Im.mk m.f m.w m.h (rpL (enc m.f c0 c1 c2 c3) (m.w * m.h).toNat)).get u v i = qnt m.f c0 c1 c2 c3 i := by
  have ko := m.fill_ok h c0 c1 c2 c3
  have ki := (Im.ins_shape (m := Im.mk m.f m.w m.h (rpL (enc m.f c0 c1 c2 c3) (m.w * m.h).toNat)) ko h rfl rfl u v).2 k
  unfold Im.get
  rw [if_pos ki]
  unfold qnt
  congr 1
  unfold Im.txl
  obtain ⟨p, hp, hpl, hpe⟩ := Im.off_in ki
  rw [hp, Int.toNat_natCast]
  have hx := k.2.1
  have hy := k.2.2
  have h0 : 0 ≤ v * m.w := Int.mul_nonneg hy.1 (by omega)
  have h2 : (v + 1) * m.w ≤ m.h * m.w := Int.mul_le_mul_of_nonneg_right (by omega) (by omega)
  rw [Int.add_mul, Int.one_mul] at h2
  have hi : v * m.w + u < m.w * m.h := by rw [Int.mul_comm m.w m.h]; omega
  have e : p = (v * m.w + u).toNat * (enc m.f c0 c1 c2 c3).length := by
    rw [enc_len]
    have : ((((v * m.w + u).toNat * nsz m.f : Nat)) : Int) = (v * m.w + u) * nsz m.f := by rw [Int.natCast_mul, Int.toNat_of_nonneg (by omega)]
    simp only at hpe
    omega
  have := rpL_part (enc m.f c0 c1 c2 c3) (m.w * m.h).toNat (v * m.w + u).toNat (by omega)
  rw [← e, enc_len] at this
  exact this

theorem eqI_self (m : Im) : eqI m m = true := by unfold eqI; simp

set_option maxRecDepth 100000 in
set_option maxHeartbeats 2000000 in
theorem fillUniform_walk (f wd ht : Int) (A : Option Addr) (n c : Nat) (l : List Int) (x0 x1 x2 x3 : Int) (w : World) (R : Rd w w.heap.size .u8 A n l) (_hc : n ≤ c) (hn : n ≤ 140737488351232) :
    Calls Try.prog 8 #[.agg #[.int .i64 f, .int .i64 wd, .int .i64 ht, .slice A n c], .agg #[.int .i64 x0, .int .i64 x1, .int .i64 x2, .int .i64 x3]] w fun e w' => e = .returned (.bool true) ∧ Below w.heap.size w w' := by
  have z1 : (w.alloc (.cells #[.int .i64 f, .int .i64 wd, .int .i64 ht, .slice A n c] 25)).heap.size = w.heap.size + 1 := by simp
  have b0 := box_below w #[.int .i64 f, .int .i64 wd, .int .i64 ht, .slice A n c] 25
  have b1 := box_below (w.alloc (.cells #[.int .i64 f, .int .i64 wd, .int .i64 ht, .slice A n c] 25)) #[.int .i64 x0, .int .i64 x1, .int .i64 x2, .int .i64 x3] 28
  have D0 := ((IBox.made w f wd ht A n c 25).on b1).1
  have V0 := (VBox.made (w.alloc (.cells #[.int .i64 f, .int .i64 wd, .int .i64 ht, .slice A n c] 25)) x0 x1 x2 x3 28).1
  rw [z1] at V0
  have BB := bon b0 b1
  have K1 : Rd ((w.alloc (.cells #[.int .i64 f, .int .i64 wd, .int .i64 ht, .slice A n c] 25)).alloc (.cells #[.int .i64 x0, .int .i64 x1, .int .i64 x2, .int .i64 x3] 28)) ((w.alloc (.cells #[.int .i64 f, .int .i64 wd, .int .i64 ht, .slice A n c] 25)).alloc (.cells #[.int .i64 x0, .int .i64 x1, .int .i64 x2, .int .i64 x3] 28)).heap.size .u8 A n l := R.on BB
  clear b0 b1 z1
  have hln := R.len
  have cv := fun W => pvalid_b f wd ht A n c l W hln
  have cfl := fun W R => pfill_b f wd ht A n c l x0 x1 x2 x3 W R hn
  by_cases hok : (Im.mk f wd ht l).ok
  · rw [decide_eq_true hok] at cv
    have fe : (Im.mk f wd ht l).fill x0 x1 x2 x3 = ⟨f, wd, ht, rpL (enc f x0 x1 x2 x3) (wd * ht).toNat⟩ := by unfold Im.fill; rw [if_pos hok, rept_rpL]
    have sok := Im.fill_ok hok x0 x1 x2 x3
    have sg := fun u v k i => Im.fill_get hok x0 x1 x2 x3 u v k i
    simp only at sok sg
    rw [fe] at cfl
    have cfl2 := fun A n c W R hn => pfill_b f wd ht A n c (rpL (enc f x0 x1 x2 x3) (wd * ht).toNat) x0 x1 x2 x3 W R hn
    rw [show (Im.mk f wd ht (rpL (enc f x0 x1 x2 x3) (wd * ht).toNat)).fill x0 x1 x2 x3 = ⟨f, wd, ht, rpL (enc f x0 x1 x2 x3) (wd * ht).toNat⟩ by unfold Im.fill; rw [if_pos sok, rept_rpL]] at cfl2
    obtain ⟨S, hS⟩ : ∃ S, rpL (enc f x0 x1 x2 x3) (wd * ht).toNat = S := ⟨_, rfl⟩
    rw [hS] at cfl cfl2 sok sg
    unfold GivesI at cfl cfl2
    simp only at cfl cfl2
    have cq := fun W => tquant_b f x0 x1 x2 x3 W
    unfold GivesV at cq
    obtain ⟨q, hq⟩ : ∃ q, qnt f x0 x1 x2 x3 = q := ⟨_, rfl⟩
    rw [hq] at cq
    simp only [hq] at sg
    have hwh : (1 ≤ wd ∧ wd ≤ 64) ∧ (1 ≤ ht ∧ ht ≤ 64) := ⟨hok.2.1, hok.2.2.1⟩
    have cv2 := fun A n c W hl => pvalid_b f wd ht A n c S W hl
    rw [decide_eq_true sok] at cv2
    have cg2 := fun A n c u v W R hc => pget_b f wd ht A n c S u v W R hc
    have F : Fit ⟨f, wd, ht, l⟩ ⟨f, wd, ht, S⟩ 0 0 0 0 wd ht := ⟨hok, sok, rfl, by omega, by omega, by simp only; omega, by simp only; omega, by simp only; omega, by simp only; omega⟩
    have TS : To ⟨f, wd, ht, l⟩ ⟨f, wd, ht, S⟩ ⟨f, wd, ht, S⟩ 0 0 0 0 (fun u v => (0 ≤ u ∧ u < 0 + wd) ∧ (0 ≤ v ∧ v < 0 + (ht.toNat : Int))) :=
      ⟨sok, rfl, rfl, rfl, fun u v _ _ => by congr 1 <;> omega, fun u v hi hq => absurd ⟨by have := hi.2.1; simp only at this; omega, by have := hi.2.2; simp only at this; omega⟩ hq⟩
    have hcp : cpI ⟨f, wd, ht, l⟩ ⟨f, wd, ht, S⟩ 0 0 0 0 wd ht = (⟨f, wd, ht, S⟩, 0) := by rw [cpI_ok F, To.uniq hok TS (To.rows F ht.toNat (by omega))]
    have ccp := fun A2 n2 c2 W R R2 hc2 => pcopy_b f wd ht f wd ht A A2 n c n2 c2 l S 0 0 0 0 wd ht W R R2 hc2 (by omega)
    rw [hcp] at ccp
    unfold GivesIE at ccp
    simp only at ccp
    unfold GivesV at cg2
    have CV := Lib.hid cv
    have CV2 := Lib.hid cv2
    have CF := Lib.hid cfl
    have CF2 := Lib.hid cfl2
    have CQ := Lib.hid cq
    have CG2 := Lib.hid cg2
    have CCP := Lib.hid ccp
    have SG := Lib.hid sg
    have HOK := Lib.hid hok
    have hS32 := Im.len_le sok
    simp only at hS32
    clear cv cv2 cfl cfl2 cq cg2 ccp hcp TS F sg sok fe hS hq hln R hok
    obtain ⟨⟨wd1, wd2⟩, ⟨ht1, ht2⟩⟩ := hwh
    have i0 := D0.1
    have i1 := D0.2.1
    have i2 := D0.2.2.1
    have i3 := D0.2.2.2
    go_enter Try.func8, Try.ntmps8
    go_wp2_with (first
      | (refine wpList_iload rfl _ _ rfl imgT D0 rfl ?_)
      | (refine wpList_vload rfl _ _ rfl vecT V0 rfl ?_)
      | (refine wpList_iload rfl _ _ rfl imgT D5 rfl ?_)
      | (go_at_call 27; (with_reducible refine (CF.out _ K1).mono ?_); rintro _ W1 ⟨A5, n5, c5, rfl, hc5, K5, B⟩; replace D0 := IAt.on D0 B; replace V0 := VecAt.on V0 B; replace K1 := K1.on B; replace BB := bon BB B; have hl5 := K5.len; have bx := box_below W1 #[.int .i64 f, .int .i64 wd, .int .i64 ht, .slice A5 n5 c5] 25; have D5 := (IBox.made W1 f wd ht A5 n5 c5 25).1; replace D0 := IAt.on D0 bx; replace V0 := VecAt.on V0 bx; replace K1 := K1.on bx; replace K5 := K5.on bx; replace BB := bon BB bx; clear bx B; have j0 := D5.1; have j1 := D5.2.1; have j2 := D5.2.2.1; have j3 := D5.2.2.2; replace i0 := D0.1; replace i1 := D0.2.1; replace i2 := D0.2.2.1; replace i3 := D0.2.2.2)
      | (go_at_call 11; (with_reducible refine (CV.out _).mono ?_); rintro _ _ ⟨rfl, B⟩; replace D0 := IAt.on D0 B; replace V0 := VecAt.on V0 B; replace D5 := IAt.on D5 B; replace K1 := K1.on B; replace K5 := K5.on B; replace BB := bon BB B; clear B; replace i0 := D0.1; replace i1 := D0.2.1; replace i2 := D0.2.2.1; replace i3 := D0.2.2.2; replace j0 := D5.1; replace j1 := D5.2.1; replace j2 := D5.2.2.1; replace j3 := D5.2.2.2)
      | (go_at_call 11; (with_reducible refine (CV2.out _ _ _ _ hl5).mono ?_); rintro _ _ ⟨rfl, B⟩; replace D0 := IAt.on D0 B; replace V0 := VecAt.on V0 B; replace D5 := IAt.on D5 B; replace K1 := K1.on B; replace K5 := K5.on B; replace BB := bon BB B; clear B; replace i0 := D0.1; replace i1 := D0.2.1; replace i2 := D0.2.2.1; replace i3 := D0.2.2.2; replace j0 := D5.1; replace j1 := D5.2.1; replace j2 := D5.2.2.1; replace j3 := D5.2.2.2)
      | (go_at_call 30; (with_reducible refine (CQ.out _).mono ?_); rintro _ W6 ⟨rfl, B⟩; replace D0 := IAt.on D0 B; replace V0 := VecAt.on V0 B; replace D5 := IAt.on D5 B; replace K1 := K1.on B; replace K5 := K5.on B; replace BB := bon BB B; have bx := box_below W6 #[.int .i64 (q 0), .int .i64 (q 1), .int .i64 (q 2), .int .i64 (q 3)] 28; have VW := (VBox.made W6 (q 0) (q 1) (q 2) (q 3) 28).1; replace D0 := IAt.on D0 bx; replace V0 := VecAt.on V0 bx; replace D5 := IAt.on D5 bx; replace K1 := K1.on bx; replace K5 := K5.on bx; replace BB := bon BB bx; clear bx B; replace i0 := D0.1; replace i1 := D0.2.1; replace i2 := D0.2.2.1; replace i3 := D0.2.2.2; replace j0 := D5.1; replace j1 := D5.2.1; replace j2 := D5.2.2.1; replace j3 := D5.2.2.2))
    obtain ⟨H, rfl⟩ : ∃ H : Nat, ht = H := ⟨ht.toNat, by omega⟩
    obtain ⟨N, rfl⟩ : ∃ N : Nat, wd = N := ⟨wd.toNat, by omega⟩
    clear i0 i1 i2 i3 j0 j1 j2 j3
    go_loopw [7] (fun t wr => ∃ v : Nat, v ≤ H ∧ t = .int .i64 (v : Int) ∧ IAt wr w.heap.size f N H A n c ∧ VecAt wr (w.heap.size + 1) x0 x1 x2 x3 ∧ IAt wr W1.heap.size f N H A5 n5 c5 ∧ VecAt wr W6.heap.size (q 0) (q 1) (q 2) (q 3) ∧ Rd wr wr.heap.size .u8 A n l ∧ Rd wr wr.heap.size .u8 A5 n5 S ∧ Below w.heap.size w wr) (fun t _ => H - (intOf t).toNat)
    case atStart => exact ⟨0, by omega, rfl, D0, V0, D5, VW, K1, K5, BB⟩
    case round =>
      clear D0 V0 D5 VW K1 K5 BB
      obtain ⟨v, hv, rfl, D0, V0, D5, VW, K1, K5, BB⟩ := hrel
      have i2 := D0.2.2.1
      by_cases hvH : v < H
      · go_wp2
        clear i2
        go_loopw [8] (fun t wr => ∃ u : Nat, u ≤ N ∧ t = .int .i64 (u : Int) ∧ IAt wr w.heap.size f N H A n c ∧ VecAt wr (w.heap.size + 1) x0 x1 x2 x3 ∧ IAt wr W1.heap.size f N H A5 n5 c5 ∧ VecAt wr W6.heap.size (q 0) (q 1) (q 2) (q 3) ∧ Rd wr wr.heap.size .u8 A n l ∧ Rd wr wr.heap.size .u8 A5 n5 S ∧ Below w.heap.size w wr) (fun t _ => N - (intOf t).toNat)
        case atStart => exact ⟨0, by omega, rfl, D0, V0, D5, VW, K1, K5, BB⟩
        case round =>
          clear D0 V0 D5 VW K1 K5 BB
          obtain ⟨u, hu, rfl, D0, V0, D5, VW, K1, K5, BB⟩ := hrel
          have i1 := D0.2.1
          by_cases huN : u < N
          · have hin : (Im.mk f N H l).ins u v := ⟨HOK.out, ⟨by omega, by simp only; omega⟩, ⟨by omega, by simp only; omega⟩⟩
            have es : (Im.mk f N H S).get u v = q := funext fun i => SG.out u v hin i
            have cg := fun W R => CG2.out A5 n5 c5 u v W R hc5
            rw [es] at cg
            have CGS := Lib.hid cg
            clear cg es hin
            go_wp2
            clear i1
            refine wp_region_quiet_below (by kernel_rfl) (by kernel_rfl) ?_
            repeat (first | (go_big_quiet_want; refine quiet_iload _ _ rfl imgT (fun W hW => IAt.on D0 (below_regrown' hW)) rfl ?_; go_simp; go_big_quiet_on) | (go_big_quiet_want; refine quiet_iload _ _ rfl imgT (fun W hW => IAt.on D5 (below_regrown' hW)) rfl ?_; go_simp; go_big_quiet_on) | (go_big_quiet_want; refine quiet_vload _ _ rfl vecT (fun W hW => VecAt.on V0 (below_regrown' hW)) rfl ?_; go_simp; go_big_quiet_on) | (go_big_quiet_want; refine quiet_vload _ _ rfl vecT (fun W hW => VecAt.on VW (below_regrown' hW)) rfl ?_; go_simp; go_big_quiet_on) | go_big_quiet_step ((first | (go_at_call 15; exact Calls.regrown_of (CGS.out _ (K5.on (below_regrown _ _ _)))))) | quiet_step ((first | (go_at_call 15; exact Calls.regrown_of (CGS.out _ (K5.on (below_regrown _ _ _)))))))
            refine wpQuiet_nil ?_
            intro W hw'
            have B := below_regrown' hw'
            clear hw'
            replace BB := bon BB B
            replace D0 := IAt.on D0 B
            replace V0 := VecAt.on V0 B
            replace D5 := IAt.on D5 B
            replace VW := VecAt.on VW B
            replace K1 := Rd.on K1 B
            replace K5 := Rd.on K5 B
            go_wp2
            go_roundw
            case rel => exact ⟨u + 1, by omega, by go_num, D0, V0, D5, VW, K1, K5, BB⟩
            case measure => simp [intOf]; omega
          · obtain rfl : u = N := by omega
            go_wp2
            go_roundw
            case rel => exact ⟨v + 1, by omega, by go_num, D0, V0, D5, VW, K1, K5, BB⟩
            case measure => simp [intOf]; omega
      · obtain rfl : v = H := by omega
        have i1 := D0.2.1
        go_wp2_with (first
          | (refine wpList_iload rfl _ _ rfl imgT D0 rfl ?_)
          | (refine wpList_iload rfl _ _ rfl imgT D5 rfl ?_)
          | (go_at_call 21; (with_reducible refine (CCP.out _ _ _ _ K1 K5 hc5).mono ?_); rintro _ W7 ⟨A9, n9, c9, rfl, hc9, K9, B⟩; replace D0 := IAt.on D0 B; replace V0 := VecAt.on V0 B; replace D5 := IAt.on D5 B; replace K1 := K1.on B; replace K5 := K5.on B; replace BB := bon BB B; clear B; have bx := box_below W7 #[.int .i64 f, .int .i64 N, .int .i64 v, .slice A9 n9 c9] 25; have D9 := (IBox.made W7 f N v A9 n9 c9 25).1; replace D0 := IAt.on D0 bx; replace V0 := VecAt.on V0 bx; replace D5 := IAt.on D5 bx; replace K1 := K1.on bx; replace K5 := K5.on bx; replace K9 := K9.on bx; replace BB := bon BB bx; clear bx))
        clear i1 i2 D0 VW K1
        refine wp_region_treeC (fun W => IAt W W1.heap.size f N v A5 n5 c5 ∧ IAt W W7.heap.size f N v A9 n9 c9 ∧ VecAt W (w.heap.size + 1) x0 x1 x2 x3) (.read 0 (.read 1 (.read 2 (.read 3 (.read 4 (.fork1 5 (.read 6 (.read 7 (.read 8 (.read 9 (.read 11 (.fork1 10 (.fork1 12 (.read 13 (.read 14 (.read 15 (.read 17 (.fork1 16 (.fork1 18 (.read 19 (.read 20 (.read 21 (.fork1 22 (.read 23 (.read 24 (.nil)))))))))))))))))))))))))) (by kernel_rfl) (by kernel_rfl) (fun W hB => ⟨D5.on hB, D9.on hB, V0.on hB⟩) ?_
        intro V1 B
        replace D5 := IAt.on D5 B; replace D9 := IAt.on D9 B; replace V0 := VecAt.on V0 B; replace K5 := K5.on B; replace K9 := K9.on B; replace BB := bon BB B
        clear B
        refine tree_read rfl ?_
        refine wpQuiet_step (fun K hK => ?_)
        rw [if_pos (by rfl)]
        first | refine quiet_move _ rfl ?_ | refine quiet_assign _ rfl ?_
        go_simp
        refine hK _ ?_
        clear hK K
        refine wpQuiet_nil ?_
        refine tree_read rfl ?_
        refine wpQuiet_step (fun K hK => ?_)
        rw [if_pos (by rfl)]
        refine quiet_val (.bool true) (fun W hW => by simp [execOp, go_sem]) ?_
        go_simp
        refine hK _ ?_
        clear hK K
        refine wpQuiet_nil ?_
        refine tree_read rfl ?_
        refine wpQuiet_step (fun K hK => ?_)
        rw [if_pos (by rfl)]
        first | refine quiet_move _ rfl ?_ | refine quiet_assign _ rfl ?_
        go_simp
        refine hK _ ?_
        clear hK K
        refine wpQuiet_nil ?_
        refine tree_read rfl ?_
        refine wpQuiet_step (fun K hK => ?_)
        rw [if_pos (by rfl)]
        refine quiet_iload _ _ rfl imgT (fun W hW => hW.2.1) rfl ?_
        go_simp
        refine hK _ ?_
        clear hK K
        refine wpQuiet_nil ?_
        refine tree_read rfl ?_
        refine wpQuiet_step (fun K hK => ?_)
        rw [if_pos (by rfl)]
        refine quiet_iload _ _ rfl imgT (fun W hW => hW.1) rfl ?_
        go_simp
        refine hK _ ?_
        clear hK K
        refine wpQuiet_nil ?_
        refine tree_one rfl ?_
        go_wp2_with (have ce := pequal_b f N v f N v A9 A5 n9 n5 c9 c5 S S _ K9 K5; rw [eqI_self] at ce; go_at_call 31; (with_reducible refine ce.mono ?_); clear ce; rintro _ _ ⟨rfl, B⟩; replace D5 := IAt.on D5 B; replace D9 := IAt.on D9 B; replace V0 := VecAt.on V0 B; replace K5 := K5.on B; replace K9 := K9.on B; replace BB := bon BB B; clear B)
        refine ⟨⟨D5, D9, V0⟩, ?_⟩
        refine tree_read rfl ?_
        refine wpQuiet_step (fun K hK => ?_)
        rw [if_pos (by rfl)]
        refine quiet_val (.bool true) (fun W hW => by simp [execOp, go_sem]) ?_
        go_simp
        refine hK _ ?_
        clear hK K
        refine wpQuiet_nil ?_
        refine tree_read rfl ?_
        refine wpQuiet_step (fun K hK => ?_)
        rw [if_pos (by rfl)]
        first | refine quiet_move _ rfl ?_ | refine quiet_assign _ rfl ?_
        go_simp
        refine hK _ ?_
        clear hK K
        refine wpQuiet_nil ?_
        refine tree_read rfl ?_
        refine wpQuiet_step (fun K hK => ?_)
        rw [if_pos (by rfl)]
        refine quiet_iload _ _ rfl imgT (fun W hW => hW.1) rfl ?_
        go_simp
        refine hK _ ?_
        clear hK K
        refine wpQuiet_nil ?_
        refine tree_read rfl ?_
        refine wpQuiet_step (fun K hK => ?_)
        rw [if_pos (by rfl)]
        refine quiet_vload _ _ rfl vecT (fun W hW => hW.2.2) rfl ?_
        go_simp
        refine hK _ ?_
        clear hK K
        refine wpQuiet_nil ?_
        refine tree_read rfl ?_
        refine wpQuiet_step (fun K hK => ?_)
        rw [if_pos (by rfl)]
        refine quiet_iload _ _ rfl imgT (fun W hW => hW.1) rfl ?_
        go_simp
        refine hK _ ?_
        clear hK K
        refine wpQuiet_nil ?_
        refine tree_one rfl ?_
        go_wp2_with (go_at_call 27; (with_reducible refine (CF2.out _ _ _ _ K5 (by have := K5.len; omega)).mono ?_); rintro _ V3 ⟨A3, n3, c3, rfl, hc3, K3, B⟩; replace D5 := IAt.on D5 B; replace D9 := IAt.on D9 B; replace V0 := VecAt.on V0 B; replace K5 := K5.on B; replace K9 := K9.on B; replace BB := bon BB B; clear B)
        refine ⟨⟨D5, D9, V0⟩, ?_⟩
        refine tree_one rfl ?_
        go_wp2_with (have ce := pequal_b f N v f N v A3 A5 n3 n5 c3 c5 S S _ K3 K5; rw [eqI_self] at ce; go_at_call 31; (with_reducible refine ce.mono ?_); clear ce K3; rintro _ _ ⟨rfl, B⟩; replace D5 := IAt.on D5 B; replace D9 := IAt.on D9 B; replace V0 := VecAt.on V0 B; replace K5 := K5.on B; replace K9 := K9.on B; replace BB := bon BB B; clear B)
        refine ⟨⟨D5, D9, V0⟩, ?_⟩
        refine tree_read rfl ?_
        refine wpQuiet_step (fun K hK => ?_)
        rw [if_pos (by rfl)]
        refine quiet_val (.bool true) (fun W hW => by simp [execOp, go_sem]) ?_
        go_simp
        refine hK _ ?_
        clear hK K
        refine wpQuiet_nil ?_
        refine tree_read rfl ?_
        refine wpQuiet_step (fun K hK => ?_)
        rw [if_pos (by rfl)]
        first | refine quiet_move _ rfl ?_ | refine quiet_assign _ rfl ?_
        go_simp
        refine hK _ ?_
        clear hK K
        refine wpQuiet_nil ?_
        refine tree_read rfl ?_
        refine wpQuiet_step (fun K hK => ?_)
        rw [if_pos (by rfl)]
        refine quiet_iload _ _ rfl imgT (fun W hW => hW.2.1) rfl ?_
        go_simp
        refine hK _ ?_
        clear hK K
        refine wpQuiet_nil ?_
        refine tree_read rfl ?_
        refine wpQuiet_step (fun K hK => ?_)
        rw [if_pos (by rfl)]
        refine quiet_iload _ _ rfl imgT (fun W hW => hW.1) rfl ?_
        go_simp
        refine hK _ ?_
        clear hK K
        refine wpQuiet_nil ?_
        refine tree_one rfl ?_
        go_wp2_with (go_at_call 25; (with_reducible refine (phash_b f N v A9 n9 c9 S _ K9).mono ?_); rintro _ _ ⟨rfl, B⟩; replace D5 := IAt.on D5 B; replace D9 := IAt.on D9 B; replace V0 := VecAt.on V0 B; replace K5 := K5.on B; replace K9 := K9.on B; replace BB := bon BB B; clear B)
        refine ⟨⟨D5, D9, V0⟩, ?_⟩
        refine tree_one rfl ?_
        go_wp2_with (go_at_call 25; (with_reducible refine (phash_b f N v A5 n5 c5 S _ K5).mono ?_); rintro _ _ ⟨rfl, B⟩; replace D5 := IAt.on D5 B; replace D9 := IAt.on D9 B; replace V0 := VecAt.on V0 B; replace K5 := K5.on B; replace K9 := K9.on B; replace BB := bon BB B; clear B)
        refine ⟨⟨D5, D9, V0⟩, ?_⟩
        refine tree_read rfl ?_
        refine wpQuiet_step (fun K hK => ?_)
        rw [if_pos (by rfl)]
        refine quiet_val (.bool true) (fun W hW => by simp [execOp, go_sem]) ?_
        go_simp
        refine hK _ ?_
        clear hK K
        refine wpQuiet_nil ?_
        refine tree_read rfl ?_
        refine wpQuiet_step (fun K hK => ?_)
        rw [if_pos (by rfl)]
        refine quiet_val (.bool true) (fun W hW => by simp [execOp, go_sem]) ?_
        go_simp
        refine hK _ ?_
        clear hK K
        refine wpQuiet_nil ?_
        refine tree_read rfl ?_
        refine wpQuiet_step (fun K hK => ?_)
        rw [if_pos (by rfl)]
        first | refine quiet_move _ rfl ?_ | refine quiet_assign _ rfl ?_
        go_simp
        refine hK _ ?_
        clear hK K
        refine wpQuiet_nil ?_
        refine tree_one rfl ?_
        go_wp2_with (go_at_call 20; (with_reducible refine (iexample_b _).mono ?_); rintro _ _ ⟨rfl, B⟩; replace D5 := IAt.on D5 B; replace D9 := IAt.on D9 B; replace V0 := VecAt.on V0 B; replace K5 := K5.on B; replace K9 := K9.on B; replace BB := bon BB B; clear B)
        refine ⟨⟨D5, D9, V0⟩, ?_⟩
        refine tree_read rfl ?_
        refine wpQuiet_step (fun K hK => ?_)
        rw [if_pos (by rfl)]
        refine quiet_val (.bool true) (fun W hW => by simp [execOp, go_sem]) ?_
        go_simp
        refine hK _ ?_
        clear hK K
        refine wpQuiet_nil ?_
        refine tree_read rfl ?_
        refine wpQuiet_step (fun K hK => ?_)
        rw [if_pos (by rfl)]
        first | refine quiet_move _ rfl ?_ | refine quiet_assign _ rfl ?_
        go_simp
        refine hK _ ?_
        clear hK K
        refine wpQuiet_nil ?_
        refine tree_nil ?_
        go_wp2
        go_ret
        exact ⟨rfl, BB⟩
  · have fe : (Im.mk f wd ht l).fill x0 x1 x2 x3 = ⟨f, wd, ht, l⟩ := if_neg hok
    rw [decide_eq_false hok] at cv
    rw [fe] at cfl
    unfold GivesI at cfl
    simp only at cfl
    have cv2 := fun A n c W hl => pvalid_b f wd ht A n c l W hl
    rw [decide_eq_false hok] at cv2
    have ch := fun W R => phash_b f wd ht A n c l W R
    rw [show (Im.mk f wd ht l).hash = 0 from if_neg hok] at ch
    have ce := fun A2 n2 c2 W R2 R => pequal_b f wd ht f wd ht A2 A n2 n c2 c l l W R2 R
    rw [eqI_self] at ce
    have CV := Lib.hid cv
    have CV2 := Lib.hid cv2
    have CF := Lib.hid cfl
    have CH := Lib.hid ch
    have CE := Lib.hid ce
    clear cv cv2 cfl ch ce fe hok hln R
    have i0 := D0.1
    have i1 := D0.2.1
    have i2 := D0.2.2.1
    have i3 := D0.2.2.2
    go_enter Try.func8, Try.ntmps8
    go_wp2_with (first
      | (refine wpList_iload rfl _ _ rfl imgT D0 rfl ?_)
      | (refine wpList_vload rfl _ _ rfl vecT V0 rfl ?_)
      | (refine wpList_iload rfl _ _ rfl imgT D5 rfl ?_)
      | (go_at_call 27; (with_reducible refine (CF.out _ K1).mono ?_); rintro _ W1 ⟨A5, n5, c5, rfl, hc5, K5, B⟩; replace D0 := IAt.on D0 B; replace V0 := VecAt.on V0 B; replace K1 := K1.on B; replace BB := bon BB B; have hl5 := K5.len; have bx := box_below W1 #[.int .i64 f, .int .i64 wd, .int .i64 ht, .slice A5 n5 c5] 25; have D5 := (IBox.made W1 f wd ht A5 n5 c5 25).1; replace D0 := IAt.on D0 bx; replace V0 := VecAt.on V0 bx; replace K1 := K1.on bx; replace K5 := K5.on bx; replace BB := bon BB bx; clear bx B; have j0 := D5.1; have j1 := D5.2.1; have j2 := D5.2.2.1; have j3 := D5.2.2.2; replace i0 := D0.1; replace i1 := D0.2.1; replace i2 := D0.2.2.1; replace i3 := D0.2.2.2)
      | (go_at_call 11; (with_reducible refine (CV.out _).mono ?_); rintro _ _ ⟨rfl, B⟩; replace D0 := IAt.on D0 B; replace V0 := VecAt.on V0 B; replace D5 := IAt.on D5 B; replace K1 := K1.on B; replace K5 := K5.on B; replace BB := bon BB B; clear B; replace i0 := D0.1; replace i1 := D0.2.1; replace i2 := D0.2.2.1; replace i3 := D0.2.2.2; replace j0 := D5.1; replace j1 := D5.2.1; replace j2 := D5.2.2.1; replace j3 := D5.2.2.2)
      | (go_at_call 11; (with_reducible refine (CV2.out _ _ _ _ hl5).mono ?_); rintro _ _ ⟨rfl, B⟩; replace D0 := IAt.on D0 B; replace V0 := VecAt.on V0 B; replace D5 := IAt.on D5 B; replace K1 := K1.on B; replace K5 := K5.on B; replace BB := bon BB B; clear B; replace i0 := D0.1; replace i1 := D0.2.1; replace i2 := D0.2.2.1; replace i3 := D0.2.2.2; replace j0 := D5.1; replace j1 := D5.2.1; replace j2 := D5.2.2.1; replace j3 := D5.2.2.2)
      | (go_at_call 31; (with_reducible refine (CE.out _ _ _ _ K5 K1).mono ?_); rintro _ _ ⟨rfl, B⟩; replace D0 := IAt.on D0 B; replace V0 := VecAt.on V0 B; replace D5 := IAt.on D5 B; replace K1 := K1.on B; replace K5 := K5.on B; replace BB := bon BB B; clear B; replace i0 := D0.1; replace i1 := D0.2.1; replace i2 := D0.2.2.1; replace i3 := D0.2.2.2; replace j0 := D5.1; replace j1 := D5.2.1; replace j2 := D5.2.2.1; replace j3 := D5.2.2.2)
      | (go_at_call 25; (with_reducible refine (CH.out _ K1).mono ?_); rintro _ _ ⟨rfl, B⟩; replace D0 := IAt.on D0 B; replace V0 := VecAt.on V0 B; replace D5 := IAt.on D5 B; replace K1 := K1.on B; replace K5 := K5.on B; replace BB := bon BB B; clear B; replace i0 := D0.1; replace i1 := D0.2.1; replace i2 := D0.2.2.1; replace i3 := D0.2.2.2; replace j0 := D5.1; replace j1 := D5.2.1; replace j2 := D5.2.2.1; replace j3 := D5.2.2.2)
      | (go_at_call 20; (with_reducible refine (iexample_b _).mono ?_); rintro _ V8 ⟨rfl, B⟩; replace BB := bon BB B; clear B i0 i1 i2 i3 j0 j1 j2 j3))
    go_ret
    exact ⟨rfl, BB⟩

end Go.Proofs.Ytpcoihbchinckaa
