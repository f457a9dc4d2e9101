/- The walk of ImageEqual. -/
import Derived.Test.YtpcoihbchinckaaI21
import Derived.Lib.Bytes
namespace Go.Proofs.Ytpcoihbchinckaa
open Go.RowKit Go.Sort

theorem eqI_comm (m k : Im) : eqI m k = eqI k m := by
  unfold eqI
  rw [BEq.comm (a := m.f), BEq.comm (a := m.w), BEq.comm (a := m.h), BEq.comm (a := (strOfNums m.l).toList)]

theorem eqI_set {f w h : Int} {l : List Int} {x y : Int} (hr : ∀ z ∈ l, IntKind.u8.min ≤ z ∧ z ≤ IntKind.u8.max) (hx : l[0]? = some x) (hy : 0 ≤ y ∧ y ≤ 255) (hne : y ≠ x) : eqI ⟨f, w, h, l⟩ ⟨f, w, h, l.set 0 y⟩ = false := by
  cases l with
  | nil => simp at hx
  | cons a t =>
    have ha := hr a (by simp)
    rw [u8_min, u8_max] at ha
    obtain rfl : a = x := by simpa using hx
    unfold eqI
    simp only [Lib.strOfNums_toList, List.set_cons_zero, Lib.bytesOf, List.map_cons]
    have hb : UInt8.ofNat a.toNat ≠ UInt8.ofNat y.toNat := by
      intro e
      have := congrArg UInt8.toNat e
      simp only [UInt8.toNat_ofNat'] at this
      omega
    simp [hb]

set_option maxRecDepth 100000 in
set_option maxHeartbeats 4000000 in
theorem equal_walk (f wd ht f2 wd2 ht2 : Int) (A A2 : Option Addr) (n c n2 c2 : Nat) (l l2 : List Int) (w : World) (R : Rd w w.heap.size .u8 A n l) (R2 : Rd w w.heap.size .u8 A2 n2 l2) (_hc : n ≤ c) (_hc2 : n2 ≤ c2) (hn : n ≤ 140737488351232) :
    Calls Try.prog 9 #[.agg #[.int .i64 f, .int .i64 wd, .int .i64 ht, .slice A n c], .agg #[.int .i64 f2, .int .i64 wd2, .int .i64 ht2, .slice A2 n2 c2]] w fun e w' => e = .returned (.bool true) ∧ Below w.heap.size w w' := by
  have z1 : (w.alloc (.cells #[.int .i64 f, .int .i64 wd, .int .i64 ht, .slice A n c] 25)).heap.size = w.heap.size + 1 := by simp
  have b0 := box_below w #[.int .i64 f, .int .i64 wd, .int .i64 ht, .slice A n c] 25
  have b1 := box_below (w.alloc (.cells #[.int .i64 f, .int .i64 wd, .int .i64 ht, .slice A n c] 25)) #[.int .i64 f2, .int .i64 wd2, .int .i64 ht2, .slice A2 n2 c2] 25
  have D0 := ((IBox.made w f wd ht A n c 25).on b1).1
  have D1 := (IBox.made (w.alloc (.cells #[.int .i64 f, .int .i64 wd, .int .i64 ht, .slice A n c] 25)) f2 wd2 ht2 A2 n2 c2 25).1
  rw [z1] at D1
  have BB := bon b0 b1
  have K1 : Rd ((w.alloc (.cells #[.int .i64 f, .int .i64 wd, .int .i64 ht, .slice A n c] 25)).alloc (.cells #[.int .i64 f2, .int .i64 wd2, .int .i64 ht2, .slice A2 n2 c2] 25)) ((w.alloc (.cells #[.int .i64 f, .int .i64 wd, .int .i64 ht, .slice A n c] 25)).alloc (.cells #[.int .i64 f2, .int .i64 wd2, .int .i64 ht2, .slice A2 n2 c2] 25)).heap.size .u8 A n l := R.on BB
  have K2 : Rd ((w.alloc (.cells #[.int .i64 f, .int .i64 wd, .int .i64 ht, .slice A n c] 25)).alloc (.cells #[.int .i64 f2, .int .i64 wd2, .int .i64 ht2, .slice A2 n2 c2] 25)) ((w.alloc (.cells #[.int .i64 f, .int .i64 wd, .int .i64 ht, .slice A n c] 25)).alloc (.cells #[.int .i64 f2, .int .i64 wd2, .int .i64 ht2, .slice A2 n2 c2] 25)).heap.size .u8 A2 n2 l2 := R2.on BB
  have HZ := Lib.hid (show ((w.alloc (.cells #[.int .i64 f, .int .i64 wd, .int .i64 ht, .slice A n c] 25)).alloc (.cells #[.int .i64 f2, .int .i64 wd2, .int .i64 ht2, .slice A2 n2 c2] 25)).heap.size = w.heap.size + 2 by simp)
  clear b0 b1 z1
  have v1 := iconv (c := c) K1
  have v2 := iconv (c := c2) K2
  have HLN := Lib.hid R.len
  have HR := Lib.hid R
  have CC := Lib.hid (fun W R => pclone_b f wd ht A n c l W R hn)
  have ch := fun W R => phash_b f wd ht A n c l W R
  have ch6 := fun A6 c6 W R => phash_b f wd ht A6 n c6 l W R
  obtain ⟨H, hH⟩ : ∃ H, (Im.mk f wd ht l).hash = H := ⟨_, rfl⟩
  rw [hH] at ch ch6
  have CH := Lib.hid ch
  have CH6 := Lib.hid ch6
  have ce01 := fun W R R2 => pequal_b f wd ht f2 wd2 ht2 A A2 n n2 c c2 l l2 W R R2
  have ce10 := fun W R R2 => pequal_b f2 wd2 ht2 f wd ht A2 A n2 n c2 c l2 l W R R2
  have ce06 := fun A6 c6 W R R2 => pequal_b f wd ht f wd ht A A6 n n c c6 l l W R R2
  have ce60 := fun A6 c6 W R R2 => pequal_b f wd ht f wd ht A6 A n n c6 c l l W R R2
  have i0 := D0.1
  have i1 := D0.2.1
  have i2 := D0.2.2.1
  have i3 := D0.2.2.2
  have j0 := D1.1
  have j1 := D1.2.1
  have j2 := D1.2.2.1
  have j3 := D1.2.2.2
  clear ch ch6 hH R R2
  by_cases h1 : f = f2
  · subst h1
    by_cases h2 : wd = wd2
    · subst h2
      by_cases h3 : ht = ht2
      · subst h3
        by_cases h4 : strOfNums l = strOfNums l2
        · have hq := (show eqI ⟨f, wd, ht, l⟩ ⟨f, wd, ht, l2⟩ = true by unfold eqI; simp [h4])
          rw [← h4] at v2
          obtain ⟨s, hs⟩ : ∃ s, strOfNums l = s := ⟨_, rfl⟩
          rw [hs] at v1 v2
          clear hs h4
          rw [hq] at ce01
          rw [eqI_comm, hq] at ce10
          rw [eqI_self] at ce06 ce60
          have CE01 := Lib.hid ce01
          have CE10 := Lib.hid ce10
          have CE06 := Lib.hid ce06
          have CE60 := Lib.hid ce60
          clear ce01 ce10 ce06 ce60
          go_enter Try.func9, Try.ntmps9
          go_wp2_with (first
            | (refine wpList_iload rfl _ _ rfl imgT D0 rfl ?_)
            | (go_at_call 29; (with_reducible refine (CC.out _ K1).mono ?_); rintro _ W6 ⟨A6, n6, c6, rfl, own6, B⟩; have hn6 : n = n6 := HLN.out.symm.trans own6.len; subst hn6; have hs6 := BB.size; have hs7 := B.size; replace D0 := IAt.on D0 B; replace D1 := IAt.on D1 B; replace K1 := K1.on B; replace K2 := K2.on B; replace BB := bon BB B; clear B; have OW6 := Lib.hid own6; have bx := box_below W6 #[.int .i64 f, .int .i64 wd, .int .i64 ht, .slice A6 n c6] 25; have E6 := IBox.made W6 f wd ht A6 n c6 25; have D6 := E6.1; replace own6 := own6.on bx; have K6 := own6.rd; replace D0 := IAt.on D0 bx; replace D1 := IAt.on D1 bx; replace K1 := K1.on bx; replace K2 := K2.on bx; replace BB := bon BB bx; clear bx i0 i1 i2 i3 j0 j1 j2 j3; have HBASE := Lib.hid hs6))
          refine wp_region_quiet_below (by kernel_rfl) (by kernel_rfl) ?_
          repeat (first | (go_big_quiet_want; refine quiet_iload _ _ rfl imgT (fun W hW => IAt.on D0 (below_regrown' hW)) rfl ?_; go_simp; go_big_quiet_on) | (go_big_quiet_want; refine quiet_iload _ _ rfl imgT (fun W hW => IAt.on D1 (below_regrown' hW)) rfl ?_; go_simp; go_big_quiet_on) | (go_big_quiet_want; refine quiet_iload _ _ rfl imgT (fun W hW => IAt.on D6 (below_regrown' hW)) rfl ?_; go_simp; go_big_quiet_on) | go_big_quiet_step ((first | (go_at_call 31; with_reducible exact Calls.regrown_of (CE01.out _ (K1.on (below_regrown _ _ _)) (K2.on (below_regrown _ _ _)))) | (go_at_call 31; with_reducible exact Calls.regrown_of (CE10.out _ (K2.on (below_regrown _ _ _)) (K1.on (below_regrown _ _ _)))) | (go_at_call 31; with_reducible exact Calls.regrown_of (CE06.out A6 c6 _ (K1.on (below_regrown _ _ _)) (K6.on (below_regrown _ _ _)))) | (go_at_call 31; with_reducible exact Calls.regrown_of (CE60.out A6 c6 _ (K6.on (below_regrown _ _ _)) (K1.on (below_regrown _ _ _)))) | (go_at_call 25; with_reducible exact Calls.regrown_of (CH.out _ (K1.on (below_regrown _ _ _)))) | (go_at_call 25; with_reducible exact Calls.regrown_of (CH6.out A6 c6 _ (K6.on (below_regrown _ _ _)))))) | quiet_step ((first | (go_at_call 31; with_reducible exact Calls.regrown_of (CE01.out _ (K1.on (below_regrown _ _ _)) (K2.on (below_regrown _ _ _)))) | (go_at_call 31; with_reducible exact Calls.regrown_of (CE10.out _ (K2.on (below_regrown _ _ _)) (K1.on (below_regrown _ _ _)))) | (go_at_call 31; with_reducible exact Calls.regrown_of (CE06.out A6 c6 _ (K1.on (below_regrown _ _ _)) (K6.on (below_regrown _ _ _)))) | (go_at_call 31; with_reducible exact Calls.regrown_of (CE60.out A6 c6 _ (K6.on (below_regrown _ _ _)) (K1.on (below_regrown _ _ _)))) | (go_at_call 25; with_reducible exact Calls.regrown_of (CH.out _ (K1.on (below_regrown _ _ _)))) | (go_at_call 25; with_reducible exact Calls.regrown_of (CH6.out A6 c6 _ (K6.on (below_regrown _ _ _)))))))
          refine wpQuiet_nil ?_
          intro W hw'
          have B := below_regrown' hw'
          clear hw'
          replace BB := bon BB B
          replace D0 := IAt.on D0 B
          replace D1 := IAt.on D1 B
          replace D6 := IAt.on D6 B
          replace K1 := Rd.on K1 B
          replace K2 := Rd.on K2 B
          replace K6 := Rd.on K6 B
          replace own6 := own6.on B
          replace E6 := E6.on B
          clear D1 K2 v1 v2 B
          have i3 := D0.2.2.2
          have d3 := D6.2.2.2
          by_cases hn0 : n = 0
          · clear D0 D6 K1 K6 own6 E6 OW6 HBASE
            go_wp2_with (go_at_call 20; (with_reducible refine (iexample_b _).mono ?_); rintro _ V8 ⟨rfl, B⟩)
            go_ret
            exact ⟨rfl, bon BB B⟩
          · have hpos : 0 < n := by omega
            obtain ⟨ba, oa, x, rfl, hba, sx, x0, x1, hl0⟩ := HR.out.at_ (j := 0) hpos
            rw [u8_min] at x0
            rw [u8_max] at x1
            replace sx := cell_below BB sx
            obtain ⟨g, off, y, rfl, hy, y0, y1, hly⟩ := K6.byte (j := 0) hpos
            obtain ⟨g2, e2, hbb, _⟩ := own6.stored (j := 0) (v := 0) hpos (by rw [u8_min, u8_max]; omega)
            obtain ⟨rfl, rfl⟩ : g2 = g ∧ off = 0 := by cases e2; exact ⟨rfl, rfl⟩
            have hyx : x = y := Option.some.inj (hl0.out.symm.trans hly.out)
            subst hyx
            rw [Nat.add_zero] at sx hy
            have hg6 := OW6.out.lt
            obtain ⟨y, hy0⟩ : ∃ y, (x + 1) % 256 = y := ⟨_, rfl⟩
            have w8H := Lib.hid (show IntKind.u8.wrap (x + 1) = y by rw [IntKind.wrap_u8, hy0])
            have yr : 0 ≤ y ∧ y ≤ 255 := by omega
            have yx : y ≠ x := by omega
            have cen := fun A7 n7 c7 W R R2 => pequal_b f wd ht f wd ht (some ⟨ba, oa, none⟩) A7 n n7 c c7 l (l.set 0 y) W R R2
            rw [eqI_set HR.out.rng hl0.out yr yx] at cen
            have CEN := Lib.hid cen
            have OWN := Lib.hid own6
            have HE6 := Lib.hid E6
            have HD0 := Lib.hid D0
            clear cen own6 E6 D0 D6 K1 K6 OW6 hl0 hly
            have w8 := w8H.out
            go_wp2
            have k_d3 := cell_regrown d3
            have k_hy := cell_regrown hy
            have k_sx := cell_regrown sx
            refine wp_region_tail (n := 8) (by kernel_rfl) (by kernel_rfl) ?_
            simp only [List.take_succ_cons, List.take_zero, List.drop_succ_cons, List.drop_zero]
            repeat (first | go_big_quiet_step ((first | fail)) | quiet_step ((first | fail)))
            refine wpQuiet_nil ?_
            intro W hw'
            have B := below_regrown' hw'
            clear hw' k_d3 k_hy k_sx
            replace BB := bon BB B
            replace d3 := cell_below B d3
            replace hy := cell_below B hy
            replace sx := cell_below B sx
            have BT := Lib.hid B
            clear B
            obtain ⟨g', e', _, ⟨u, cu⟩, fu, own7, B7⟩ := (OWN.out.on BT.out).stored (j := 0) (v := y) hpos (by rw [u8_min, u8_max]; omega)
            obtain rfl : g' = g2 := by cases e'; rfl
            have hbs := HZ.out
            have D0 := (HD0.out.on BT.out).below (show w.heap.size < _ by omega) B7
            have E6 := (HE6.out.on BT.out).setOther (b' := g') (j := 0) (by omega) (.int .u8 y)
            have BC := Lib.hid (BB.trans (B7.mono (by omega)))
            obtain ⟨p0, p1, p2, p3⟩ := D0
            obtain ⟨q0, q1, q2, q3⟩ := E6.1
            have K1n := Lib.hid ((HR.out.below BC.out).more BC.out.size)
            have K7n := Lib.hid own7.rd
            have sxn := (B7.cell (p := ⟨ba, oa, none⟩) (Nat.lt_of_lt_of_le hba (by omega))).trans sx
            clear E6 own7 B7 e' w8
            go_wp2_with (first
              | (go_at_call 31; (with_reducible refine (CEN.out _ _ _ _ K1n.out K7n.out).mono ?_); rintro _ W8 ⟨rfl, B8⟩; have BD := bon BC.out B8)
              | (go_at_call 20; (with_reducible refine (iexample_b _).mono ?_); rintro _ V8 ⟨rfl, B⟩))
            go_ret
            exact ⟨rfl, bon BD B⟩
        · have hb : ((strOfNums l).toList == (strOfNums l2).toList) = false := by
            rw [beq_eq_false_iff_ne]
            intro e
            rw [Lib.toList_data, Lib.toList_data] at e
            exact h4 (ByteArray.ext (Array.ext' e))
          have hq : eqI ⟨f, wd, ht, l⟩ ⟨f, wd, ht, l2⟩ = false := by unfold eqI; simp [hb]
          obtain ⟨s, hs⟩ : ∃ s, strOfNums l = s := ⟨_, rfl⟩
          obtain ⟨t, ht'⟩ : ∃ s, strOfNums l2 = s := ⟨_, rfl⟩
          rw [hs] at v1 hb
          rw [ht'] at v2 hb
          clear hs ht' h4
          rw [hq] at ce01
          rw [eqI_comm, hq] at ce10
          rw [eqI_self] at ce06 ce60
          have CE01 := Lib.hid ce01
          have CE10 := Lib.hid ce10
          have CE06 := Lib.hid ce06
          have CE60 := Lib.hid ce60
          clear ce01 ce10 ce06 ce60
          go_enter Try.func9, Try.ntmps9
          go_wp2_with (first
            | (refine wpList_iload rfl _ _ rfl imgT D0 rfl ?_)
            | (go_at_call 29; (with_reducible refine (CC.out _ K1).mono ?_); rintro _ W6 ⟨A6, n6, c6, rfl, own6, B⟩; have hn6 : n = n6 := HLN.out.symm.trans own6.len; subst hn6; have hs6 := BB.size; have hs7 := B.size; replace D0 := IAt.on D0 B; replace D1 := IAt.on D1 B; replace K1 := K1.on B; replace K2 := K2.on B; replace BB := bon BB B; clear B; have OW6 := Lib.hid own6; have bx := box_below W6 #[.int .i64 f, .int .i64 wd, .int .i64 ht, .slice A6 n c6] 25; have E6 := IBox.made W6 f wd ht A6 n c6 25; have D6 := E6.1; replace own6 := own6.on bx; have K6 := own6.rd; replace D0 := IAt.on D0 bx; replace D1 := IAt.on D1 bx; replace K1 := K1.on bx; replace K2 := K2.on bx; replace BB := bon BB bx; clear bx i0 i1 i2 i3 j0 j1 j2 j3; have HBASE := Lib.hid hs6))
          refine wp_region_quiet_below (by kernel_rfl) (by kernel_rfl) ?_
          repeat (first | (go_big_quiet_want; refine quiet_iload _ _ rfl imgT (fun W hW => IAt.on D0 (below_regrown' hW)) rfl ?_; go_simp; go_big_quiet_on) | (go_big_quiet_want; refine quiet_iload _ _ rfl imgT (fun W hW => IAt.on D1 (below_regrown' hW)) rfl ?_; go_simp; go_big_quiet_on) | (go_big_quiet_want; refine quiet_iload _ _ rfl imgT (fun W hW => IAt.on D6 (below_regrown' hW)) rfl ?_; go_simp; go_big_quiet_on) | go_big_quiet_step ((first | (go_at_call 31; with_reducible exact Calls.regrown_of (CE01.out _ (K1.on (below_regrown _ _ _)) (K2.on (below_regrown _ _ _)))) | (go_at_call 31; with_reducible exact Calls.regrown_of (CE10.out _ (K2.on (below_regrown _ _ _)) (K1.on (below_regrown _ _ _)))) | (go_at_call 31; with_reducible exact Calls.regrown_of (CE06.out A6 c6 _ (K1.on (below_regrown _ _ _)) (K6.on (below_regrown _ _ _)))) | (go_at_call 31; with_reducible exact Calls.regrown_of (CE60.out A6 c6 _ (K6.on (below_regrown _ _ _)) (K1.on (below_regrown _ _ _)))) | (go_at_call 25; with_reducible exact Calls.regrown_of (CH.out _ (K1.on (below_regrown _ _ _)))) | (go_at_call 25; with_reducible exact Calls.regrown_of (CH6.out A6 c6 _ (K6.on (below_regrown _ _ _)))))) | quiet_step ((first | (go_at_call 31; with_reducible exact Calls.regrown_of (CE01.out _ (K1.on (below_regrown _ _ _)) (K2.on (below_regrown _ _ _)))) | (go_at_call 31; with_reducible exact Calls.regrown_of (CE10.out _ (K2.on (below_regrown _ _ _)) (K1.on (below_regrown _ _ _)))) | (go_at_call 31; with_reducible exact Calls.regrown_of (CE06.out A6 c6 _ (K1.on (below_regrown _ _ _)) (K6.on (below_regrown _ _ _)))) | (go_at_call 31; with_reducible exact Calls.regrown_of (CE60.out A6 c6 _ (K6.on (below_regrown _ _ _)) (K1.on (below_regrown _ _ _)))) | (go_at_call 25; with_reducible exact Calls.regrown_of (CH.out _ (K1.on (below_regrown _ _ _)))) | (go_at_call 25; with_reducible exact Calls.regrown_of (CH6.out A6 c6 _ (K6.on (below_regrown _ _ _)))))))
          refine wpQuiet_nil ?_
          intro W hw'
          have B := below_regrown' hw'
          clear hw'
          replace BB := bon BB B
          replace D0 := IAt.on D0 B
          replace D1 := IAt.on D1 B
          replace D6 := IAt.on D6 B
          replace K1 := Rd.on K1 B
          replace K2 := Rd.on K2 B
          replace K6 := Rd.on K6 B
          replace own6 := own6.on B
          replace E6 := E6.on B
          clear D1 K2 v1 v2 B
          have i3 := D0.2.2.2
          have d3 := D6.2.2.2
          by_cases hn0 : n = 0
          · clear D0 D6 K1 K6 own6 E6 OW6 HBASE
            go_wp2_with (go_at_call 20; (with_reducible refine (iexample_b _).mono ?_); rintro _ V8 ⟨rfl, B⟩)
            go_ret
            exact ⟨rfl, bon BB B⟩
          · have hpos : 0 < n := by omega
            obtain ⟨ba, oa, x, rfl, hba, sx, x0, x1, hl0⟩ := HR.out.at_ (j := 0) hpos
            rw [u8_min] at x0
            rw [u8_max] at x1
            replace sx := cell_below BB sx
            obtain ⟨g, off, y, rfl, hy, y0, y1, hly⟩ := K6.byte (j := 0) hpos
            obtain ⟨g2, e2, hbb, _⟩ := own6.stored (j := 0) (v := 0) hpos (by rw [u8_min, u8_max]; omega)
            obtain ⟨rfl, rfl⟩ : g2 = g ∧ off = 0 := by cases e2; exact ⟨rfl, rfl⟩
            have hyx : x = y := Option.some.inj (hl0.out.symm.trans hly.out)
            subst hyx
            rw [Nat.add_zero] at sx hy
            have hg6 := OW6.out.lt
            obtain ⟨y, hy0⟩ : ∃ y, (x + 1) % 256 = y := ⟨_, rfl⟩
            have w8H := Lib.hid (show IntKind.u8.wrap (x + 1) = y by rw [IntKind.wrap_u8, hy0])
            have yr : 0 ≤ y ∧ y ≤ 255 := by omega
            have yx : y ≠ x := by omega
            have cen := fun A7 n7 c7 W R R2 => pequal_b f wd ht f wd ht (some ⟨ba, oa, none⟩) A7 n n7 c c7 l (l.set 0 y) W R R2
            rw [eqI_set HR.out.rng hl0.out yr yx] at cen
            have CEN := Lib.hid cen
            have OWN := Lib.hid own6
            have HE6 := Lib.hid E6
            have HD0 := Lib.hid D0
            clear cen own6 E6 D0 D6 K1 K6 OW6 hl0 hly
            have w8 := w8H.out
            go_wp2
            have k_d3 := cell_regrown d3
            have k_hy := cell_regrown hy
            have k_sx := cell_regrown sx
            refine wp_region_tail (n := 8) (by kernel_rfl) (by kernel_rfl) ?_
            simp only [List.take_succ_cons, List.take_zero, List.drop_succ_cons, List.drop_zero]
            repeat (first | go_big_quiet_step ((first | fail)) | quiet_step ((first | fail)))
            refine wpQuiet_nil ?_
            intro W hw'
            have B := below_regrown' hw'
            clear hw' k_d3 k_hy k_sx
            replace BB := bon BB B
            replace d3 := cell_below B d3
            replace hy := cell_below B hy
            replace sx := cell_below B sx
            have BT := Lib.hid B
            clear B
            obtain ⟨g', e', _, ⟨u, cu⟩, fu, own7, B7⟩ := (OWN.out.on BT.out).stored (j := 0) (v := y) hpos (by rw [u8_min, u8_max]; omega)
            obtain rfl : g' = g2 := by cases e'; rfl
            have hbs := HZ.out
            have D0 := (HD0.out.on BT.out).below (show w.heap.size < _ by omega) B7
            have E6 := (HE6.out.on BT.out).setOther (b' := g') (j := 0) (by omega) (.int .u8 y)
            have BC := Lib.hid (BB.trans (B7.mono (by omega)))
            obtain ⟨p0, p1, p2, p3⟩ := D0
            obtain ⟨q0, q1, q2, q3⟩ := E6.1
            have K1n := Lib.hid ((HR.out.below BC.out).more BC.out.size)
            have K7n := Lib.hid own7.rd
            have sxn := (B7.cell (p := ⟨ba, oa, none⟩) (Nat.lt_of_lt_of_le hba (by omega))).trans sx
            clear E6 own7 B7 e' w8
            go_wp2_with (first
              | (go_at_call 31; (with_reducible refine (CEN.out _ _ _ _ K1n.out K7n.out).mono ?_); rintro _ W8 ⟨rfl, B8⟩; have BD := bon BC.out B8)
              | (go_at_call 20; (with_reducible refine (iexample_b _).mono ?_); rintro _ V8 ⟨rfl, B⟩))
            go_ret
            exact ⟨rfl, bon BD B⟩
      · have h3' : (ht == ht2) = false := by simp [h3]
        have hq : eqI ⟨f, wd, ht, l⟩ ⟨f, wd, ht2, l2⟩ = false := by unfold eqI; simp [h3]
        clear v1 v2
        have v1 := trivial
        have v2 := trivial
        rw [hq] at ce01
        rw [eqI_comm, hq] at ce10
        rw [eqI_self] at ce06 ce60
        have CE01 := Lib.hid ce01
        have CE10 := Lib.hid ce10
        have CE06 := Lib.hid ce06
        have CE60 := Lib.hid ce60
        clear ce01 ce10 ce06 ce60
        go_enter Try.func9, Try.ntmps9
        go_wp2_with (first
          | (refine wpList_iload rfl _ _ rfl imgT D0 rfl ?_)
          | (go_at_call 29; (with_reducible refine (CC.out _ K1).mono ?_); rintro _ W6 ⟨A6, n6, c6, rfl, own6, B⟩; have hn6 : n = n6 := HLN.out.symm.trans own6.len; subst hn6; have hs6 := BB.size; have hs7 := B.size; replace D0 := IAt.on D0 B; replace D1 := IAt.on D1 B; replace K1 := K1.on B; replace K2 := K2.on B; replace BB := bon BB B; clear B; have OW6 := Lib.hid own6; have bx := box_below W6 #[.int .i64 f, .int .i64 wd, .int .i64 ht, .slice A6 n c6] 25; have E6 := IBox.made W6 f wd ht A6 n c6 25; have D6 := E6.1; replace own6 := own6.on bx; have K6 := own6.rd; replace D0 := IAt.on D0 bx; replace D1 := IAt.on D1 bx; replace K1 := K1.on bx; replace K2 := K2.on bx; replace BB := bon BB bx; clear bx i0 i1 i2 i3 j0 j1 j2 j3; have HBASE := Lib.hid hs6))
        refine wp_region_quiet_below (by kernel_rfl) (by kernel_rfl) ?_
        repeat (first | (go_big_quiet_want; refine quiet_iload _ _ rfl imgT (fun W hW => IAt.on D0 (below_regrown' hW)) rfl ?_; go_simp; go_big_quiet_on) | (go_big_quiet_want; refine quiet_iload _ _ rfl imgT (fun W hW => IAt.on D1 (below_regrown' hW)) rfl ?_; go_simp; go_big_quiet_on) | (go_big_quiet_want; refine quiet_iload _ _ rfl imgT (fun W hW => IAt.on D6 (below_regrown' hW)) rfl ?_; go_simp; go_big_quiet_on) | go_big_quiet_step ((first | (go_at_call 31; with_reducible exact Calls.regrown_of (CE01.out _ (K1.on (below_regrown _ _ _)) (K2.on (below_regrown _ _ _)))) | (go_at_call 31; with_reducible exact Calls.regrown_of (CE10.out _ (K2.on (below_regrown _ _ _)) (K1.on (below_regrown _ _ _)))) | (go_at_call 31; with_reducible exact Calls.regrown_of (CE06.out A6 c6 _ (K1.on (below_regrown _ _ _)) (K6.on (below_regrown _ _ _)))) | (go_at_call 31; with_reducible exact Calls.regrown_of (CE60.out A6 c6 _ (K6.on (below_regrown _ _ _)) (K1.on (below_regrown _ _ _)))) | (go_at_call 25; with_reducible exact Calls.regrown_of (CH.out _ (K1.on (below_regrown _ _ _)))) | (go_at_call 25; with_reducible exact Calls.regrown_of (CH6.out A6 c6 _ (K6.on (below_regrown _ _ _)))))) | quiet_step ((first | (go_at_call 31; with_reducible exact Calls.regrown_of (CE01.out _ (K1.on (below_regrown _ _ _)) (K2.on (below_regrown _ _ _)))) | (go_at_call 31; with_reducible exact Calls.regrown_of (CE10.out _ (K2.on (below_regrown _ _ _)) (K1.on (below_regrown _ _ _)))) | (go_at_call 31; with_reducible exact Calls.regrown_of (CE06.out A6 c6 _ (K1.on (below_regrown _ _ _)) (K6.on (below_regrown _ _ _)))) | (go_at_call 31; with_reducible exact Calls.regrown_of (CE60.out A6 c6 _ (K6.on (below_regrown _ _ _)) (K1.on (below_regrown _ _ _)))) | (go_at_call 25; with_reducible exact Calls.regrown_of (CH.out _ (K1.on (below_regrown _ _ _)))) | (go_at_call 25; with_reducible exact Calls.regrown_of (CH6.out A6 c6 _ (K6.on (below_regrown _ _ _)))))))
        refine wpQuiet_nil ?_
        intro W hw'
        have B := below_regrown' hw'
        clear hw'
        replace BB := bon BB B
        replace D0 := IAt.on D0 B
        replace D1 := IAt.on D1 B
        replace D6 := IAt.on D6 B
        replace K1 := Rd.on K1 B
        replace K2 := Rd.on K2 B
        replace K6 := Rd.on K6 B
        replace own6 := own6.on B
        replace E6 := E6.on B
        clear D1 K2 v1 v2 B
        have i3 := D0.2.2.2
        have d3 := D6.2.2.2
        by_cases hn0 : n = 0
        · clear D0 D6 K1 K6 own6 E6 OW6 HBASE
          go_wp2_with (go_at_call 20; (with_reducible refine (iexample_b _).mono ?_); rintro _ V8 ⟨rfl, B⟩)
          go_ret
          exact ⟨rfl, bon BB B⟩
        · have hpos : 0 < n := by omega
          obtain ⟨ba, oa, x, rfl, hba, sx, x0, x1, hl0⟩ := HR.out.at_ (j := 0) hpos
          rw [u8_min] at x0
          rw [u8_max] at x1
          replace sx := cell_below BB sx
          obtain ⟨g, off, y, rfl, hy, y0, y1, hly⟩ := K6.byte (j := 0) hpos
          obtain ⟨g2, e2, hbb, _⟩ := own6.stored (j := 0) (v := 0) hpos (by rw [u8_min, u8_max]; omega)
          obtain ⟨rfl, rfl⟩ : g2 = g ∧ off = 0 := by cases e2; exact ⟨rfl, rfl⟩
          have hyx : x = y := Option.some.inj (hl0.out.symm.trans hly.out)
          subst hyx
          rw [Nat.add_zero] at sx hy
          have hg6 := OW6.out.lt
          obtain ⟨y, hy0⟩ : ∃ y, (x + 1) % 256 = y := ⟨_, rfl⟩
          have w8H := Lib.hid (show IntKind.u8.wrap (x + 1) = y by rw [IntKind.wrap_u8, hy0])
          have yr : 0 ≤ y ∧ y ≤ 255 := by omega
          have yx : y ≠ x := by omega
          have cen := fun A7 n7 c7 W R R2 => pequal_b f wd ht f wd ht (some ⟨ba, oa, none⟩) A7 n n7 c c7 l (l.set 0 y) W R R2
          rw [eqI_set HR.out.rng hl0.out yr yx] at cen
          have CEN := Lib.hid cen
          have OWN := Lib.hid own6
          have HE6 := Lib.hid E6
          have HD0 := Lib.hid D0
          clear cen own6 E6 D0 D6 K1 K6 OW6 hl0 hly
          have w8 := w8H.out
          go_wp2
          have k_d3 := cell_regrown d3
          have k_hy := cell_regrown hy
          have k_sx := cell_regrown sx
          refine wp_region_tail (n := 8) (by kernel_rfl) (by kernel_rfl) ?_
          simp only [List.take_succ_cons, List.take_zero, List.drop_succ_cons, List.drop_zero]
          repeat (first | go_big_quiet_step ((first | fail)) | quiet_step ((first | fail)))
          refine wpQuiet_nil ?_
          intro W hw'
          have B := below_regrown' hw'
          clear hw' k_d3 k_hy k_sx
          replace BB := bon BB B
          replace d3 := cell_below B d3
          replace hy := cell_below B hy
          replace sx := cell_below B sx
          have BT := Lib.hid B
          clear B
          obtain ⟨g', e', _, ⟨u, cu⟩, fu, own7, B7⟩ := (OWN.out.on BT.out).stored (j := 0) (v := y) hpos (by rw [u8_min, u8_max]; omega)
          obtain rfl : g' = g2 := by cases e'; rfl
          have hbs := HZ.out
          have D0 := (HD0.out.on BT.out).below (show w.heap.size < _ by omega) B7
          have E6 := (HE6.out.on BT.out).setOther (b' := g') (j := 0) (by omega) (.int .u8 y)
          have BC := Lib.hid (BB.trans (B7.mono (by omega)))
          obtain ⟨p0, p1, p2, p3⟩ := D0
          obtain ⟨q0, q1, q2, q3⟩ := E6.1
          have K1n := Lib.hid ((HR.out.below BC.out).more BC.out.size)
          have K7n := Lib.hid own7.rd
          have sxn := (B7.cell (p := ⟨ba, oa, none⟩) (Nat.lt_of_lt_of_le hba (by omega))).trans sx
          clear E6 own7 B7 e' w8
          go_wp2_with (first
            | (go_at_call 31; (with_reducible refine (CEN.out _ _ _ _ K1n.out K7n.out).mono ?_); rintro _ W8 ⟨rfl, B8⟩; have BD := bon BC.out B8)
            | (go_at_call 20; (with_reducible refine (iexample_b _).mono ?_); rintro _ V8 ⟨rfl, B⟩))
          go_ret
          exact ⟨rfl, bon BD B⟩
    · have h2' : (wd == wd2) = false := by simp [h2]
      have hq : eqI ⟨f, wd, ht, l⟩ ⟨f, wd2, ht2, l2⟩ = false := by unfold eqI; simp [h2]
      clear v1 v2
      have v1 := trivial
      have v2 := trivial
      rw [hq] at ce01
      rw [eqI_comm, hq] at ce10
      rw [eqI_self] at ce06 ce60
      have CE01 := Lib.hid ce01
      have CE10 := Lib.hid ce10
      have CE06 := Lib.hid ce06
      have CE60 := Lib.hid ce60
      clear ce01 ce10 ce06 ce60
      go_enter Try.func9, Try.ntmps9
      go_wp2_with (first
        | (refine wpList_iload rfl _ _ rfl imgT D0 rfl ?_)
        | (go_at_call 29; (with_reducible refine (CC.out _ K1).mono ?_); rintro _ W6 ⟨A6, n6, c6, rfl, own6, B⟩; have hn6 : n = n6 := HLN.out.symm.trans own6.len; subst hn6; have hs6 := BB.size; have hs7 := B.size; replace D0 := IAt.on D0 B; replace D1 := IAt.on D1 B; replace K1 := K1.on B; replace K2 := K2.on B; replace BB := bon BB B; clear B; have OW6 := Lib.hid own6; have bx := box_below W6 #[.int .i64 f, .int .i64 wd, .int .i64 ht, .slice A6 n c6] 25; have E6 := IBox.made W6 f wd ht A6 n c6 25; have D6 := E6.1; replace own6 := own6.on bx; have K6 := own6.rd; replace D0 := IAt.on D0 bx; replace D1 := IAt.on D1 bx; replace K1 := K1.on bx; replace K2 := K2.on bx; replace BB := bon BB bx; clear bx i0 i1 i2 i3 j0 j1 j2 j3; have HBASE := Lib.hid hs6))
      refine wp_region_quiet_below (by kernel_rfl) (by kernel_rfl) ?_
      repeat (first | (go_big_quiet_want; refine quiet_iload _ _ rfl imgT (fun W hW => IAt.on D0 (below_regrown' hW)) rfl ?_; go_simp; go_big_quiet_on) | (go_big_quiet_want; refine quiet_iload _ _ rfl imgT (fun W hW => IAt.on D1 (below_regrown' hW)) rfl ?_; go_simp; go_big_quiet_on) | (go_big_quiet_want; refine quiet_iload _ _ rfl imgT (fun W hW => IAt.on D6 (below_regrown' hW)) rfl ?_; go_simp; go_big_quiet_on) | go_big_quiet_step ((first | (go_at_call 31; with_reducible exact Calls.regrown_of (CE01.out _ (K1.on (below_regrown _ _ _)) (K2.on (below_regrown _ _ _)))) | (go_at_call 31; with_reducible exact Calls.regrown_of (CE10.out _ (K2.on (below_regrown _ _ _)) (K1.on (below_regrown _ _ _)))) | (go_at_call 31; with_reducible exact Calls.regrown_of (CE06.out A6 c6 _ (K1.on (below_regrown _ _ _)) (K6.on (below_regrown _ _ _)))) | (go_at_call 31; with_reducible exact Calls.regrown_of (CE60.out A6 c6 _ (K6.on (below_regrown _ _ _)) (K1.on (below_regrown _ _ _)))) | (go_at_call 25; with_reducible exact Calls.regrown_of (CH.out _ (K1.on (below_regrown _ _ _)))) | (go_at_call 25; with_reducible exact Calls.regrown_of (CH6.out A6 c6 _ (K6.on (below_regrown _ _ _)))))) | quiet_step ((first | (go_at_call 31; with_reducible exact Calls.regrown_of (CE01.out _ (K1.on (below_regrown _ _ _)) (K2.on (below_regrown _ _ _)))) | (go_at_call 31; with_reducible exact Calls.regrown_of (CE10.out _ (K2.on (below_regrown _ _ _)) (K1.on (below_regrown _ _ _)))) | (go_at_call 31; with_reducible exact Calls.regrown_of (CE06.out A6 c6 _ (K1.on (below_regrown _ _ _)) (K6.on (below_regrown _ _ _)))) | (go_at_call 31; with_reducible exact Calls.regrown_of (CE60.out A6 c6 _ (K6.on (below_regrown _ _ _)) (K1.on (below_regrown _ _ _)))) | (go_at_call 25; with_reducible exact Calls.regrown_of (CH.out _ (K1.on (below_regrown _ _ _)))) | (go_at_call 25; with_reducible exact Calls.regrown_of (CH6.out A6 c6 _ (K6.on (below_regrown _ _ _)))))))
      refine wpQuiet_nil ?_
      intro W hw'
      have B := below_regrown' hw'
      clear hw'
      replace BB := bon BB B
      replace D0 := IAt.on D0 B
      replace D1 := IAt.on D1 B
      replace D6 := IAt.on D6 B
      replace K1 := Rd.on K1 B
      replace K2 := Rd.on K2 B
      replace K6 := Rd.on K6 B
      replace own6 := own6.on B
      replace E6 := E6.on B
      clear D1 K2 v1 v2 B
      have i3 := D0.2.2.2
      have d3 := D6.2.2.2
      by_cases hn0 : n = 0
      · clear D0 D6 K1 K6 own6 E6 OW6 HBASE
        go_wp2_with (go_at_call 20; (with_reducible refine (iexample_b _).mono ?_); rintro _ V8 ⟨rfl, B⟩)
        go_ret
        exact ⟨rfl, bon BB B⟩
      · have hpos : 0 < n := by omega
        obtain ⟨ba, oa, x, rfl, hba, sx, x0, x1, hl0⟩ := HR.out.at_ (j := 0) hpos
        rw [u8_min] at x0
        rw [u8_max] at x1
        replace sx := cell_below BB sx
        obtain ⟨g, off, y, rfl, hy, y0, y1, hly⟩ := K6.byte (j := 0) hpos
        obtain ⟨g2, e2, hbb, _⟩ := own6.stored (j := 0) (v := 0) hpos (by rw [u8_min, u8_max]; omega)
        obtain ⟨rfl, rfl⟩ : g2 = g ∧ off = 0 := by cases e2; exact ⟨rfl, rfl⟩
        have hyx : x = y := Option.some.inj (hl0.out.symm.trans hly.out)
        subst hyx
        rw [Nat.add_zero] at sx hy
        have hg6 := OW6.out.lt
        obtain ⟨y, hy0⟩ : ∃ y, (x + 1) % 256 = y := ⟨_, rfl⟩
        have w8H := Lib.hid (show IntKind.u8.wrap (x + 1) = y by rw [IntKind.wrap_u8, hy0])
        have yr : 0 ≤ y ∧ y ≤ 255 := by omega
        have yx : y ≠ x := by omega
        have cen := fun A7 n7 c7 W R R2 => pequal_b f wd ht f wd ht (some ⟨ba, oa, none⟩) A7 n n7 c c7 l (l.set 0 y) W R R2
        rw [eqI_set HR.out.rng hl0.out yr yx] at cen
        have CEN := Lib.hid cen
        have OWN := Lib.hid own6
        have HE6 := Lib.hid E6
        have HD0 := Lib.hid D0
        clear cen own6 E6 D0 D6 K1 K6 OW6 hl0 hly
        have w8 := w8H.out
        go_wp2
        have k_d3 := cell_regrown d3
        have k_hy := cell_regrown hy
        have k_sx := cell_regrown sx
        refine wp_region_tail (n := 8) (by kernel_rfl) (by kernel_rfl) ?_
        simp only [List.take_succ_cons, List.take_zero, List.drop_succ_cons, List.drop_zero]
        repeat (first | go_big_quiet_step ((first | fail)) | quiet_step ((first | fail)))
        refine wpQuiet_nil ?_
        intro W hw'
        have B := below_regrown' hw'
        clear hw' k_d3 k_hy k_sx
        replace BB := bon BB B
        replace d3 := cell_below B d3
        replace hy := cell_below B hy
        replace sx := cell_below B sx
        have BT := Lib.hid B
        clear B
        obtain ⟨g', e', _, ⟨u, cu⟩, fu, own7, B7⟩ := (OWN.out.on BT.out).stored (j := 0) (v := y) hpos (by rw [u8_min, u8_max]; omega)
        obtain rfl : g' = g2 := by cases e'; rfl
        have hbs := HZ.out
        have D0 := (HD0.out.on BT.out).below (show w.heap.size < _ by omega) B7
        have E6 := (HE6.out.on BT.out).setOther (b' := g') (j := 0) (by omega) (.int .u8 y)
        have BC := Lib.hid (BB.trans (B7.mono (by omega)))
        obtain ⟨p0, p1, p2, p3⟩ := D0
        obtain ⟨q0, q1, q2, q3⟩ := E6.1
        have K1n := Lib.hid ((HR.out.below BC.out).more BC.out.size)
        have K7n := Lib.hid own7.rd
        have sxn := (B7.cell (p := ⟨ba, oa, none⟩) (Nat.lt_of_lt_of_le hba (by omega))).trans sx
        clear E6 own7 B7 e' w8
        go_wp2_with (first
          | (go_at_call 31; (with_reducible refine (CEN.out _ _ _ _ K1n.out K7n.out).mono ?_); rintro _ W8 ⟨rfl, B8⟩; have BD := bon BC.out B8)
          | (go_at_call 20; (with_reducible refine (iexample_b _).mono ?_); rintro _ V8 ⟨rfl, B⟩))
        go_ret
        exact ⟨rfl, bon BD B⟩
  · have h1' : (f == f2) = false := by simp [h1]
    have hq : eqI ⟨f, wd, ht, l⟩ ⟨f2, wd2, ht2, l2⟩ = false := by unfold eqI; simp [h1]
    clear v1 v2
    have v1 := trivial
    have v2 := trivial
    rw [hq] at ce01
    rw [eqI_comm, hq] at ce10
    rw [eqI_self] at ce06 ce60
    have CE01 := Lib.hid ce01
    have CE10 := Lib.hid ce10
    have CE06 := Lib.hid ce06
    have CE60 := Lib.hid ce60
    clear ce01 ce10 ce06 ce60
    go_enter Try.func9, Try.ntmps9
    go_wp2_with (first
      | (refine wpList_iload rfl _ _ rfl imgT D0 rfl ?_)
      | (go_at_call 29; (with_reducible refine (CC.out _ K1).mono ?_); rintro _ W6 ⟨A6, n6, c6, rfl, own6, B⟩; have hn6 : n = n6 := HLN.out.symm.trans own6.len; subst hn6; have hs6 := BB.size; have hs7 := B.size; replace D0 := IAt.on D0 B; replace D1 := IAt.on D1 B; replace K1 := K1.on B; replace K2 := K2.on B; replace BB := bon BB B; clear B; have OW6 := Lib.hid own6; have bx := box_below W6 #[.int .i64 f, .int .i64 wd, .int .i64 ht, .slice A6 n c6] 25; have E6 := IBox.made W6 f wd ht A6 n c6 25; have D6 := E6.1; replace own6 := own6.on bx; have K6 := own6.rd; replace D0 := IAt.on D0 bx; replace D1 := IAt.on D1 bx; replace K1 := K1.on bx; replace K2 := K2.on bx; replace BB := bon BB bx; clear bx i0 i1 i2 i3 j0 j1 j2 j3; have HBASE := Lib.hid hs6))
    refine wp_region_quiet_below (by kernel_rfl) (by kernel_rfl) ?_
    repeat (first | (go_big_quiet_want; refine quiet_iload _ _ rfl imgT (fun W hW => IAt.on D0 (below_regrown' hW)) rfl ?_; go_simp; go_big_quiet_on) | (go_big_quiet_want; refine quiet_iload _ _ rfl imgT (fun W hW => IAt.on D1 (below_regrown' hW)) rfl ?_; go_simp; go_big_quiet_on) | (go_big_quiet_want; refine quiet_iload _ _ rfl imgT (fun W hW => IAt.on D6 (below_regrown' hW)) rfl ?_; go_simp; go_big_quiet_on) | go_big_quiet_step ((first | (go_at_call 31; with_reducible exact Calls.regrown_of (CE01.out _ (K1.on (below_regrown _ _ _)) (K2.on (below_regrown _ _ _)))) | (go_at_call 31; with_reducible exact Calls.regrown_of (CE10.out _ (K2.on (below_regrown _ _ _)) (K1.on (below_regrown _ _ _)))) | (go_at_call 31; with_reducible exact Calls.regrown_of (CE06.out A6 c6 _ (K1.on (below_regrown _ _ _)) (K6.on (below_regrown _ _ _)))) | (go_at_call 31; with_reducible exact Calls.regrown_of (CE60.out A6 c6 _ (K6.on (below_regrown _ _ _)) (K1.on (below_regrown _ _ _)))) | (go_at_call 25; with_reducible exact Calls.regrown_of (CH.out _ (K1.on (below_regrown _ _ _)))) | (go_at_call 25; with_reducible exact Calls.regrown_of (CH6.out A6 c6 _ (K6.on (below_regrown _ _ _)))))) | quiet_step ((first | (go_at_call 31; with_reducible exact Calls.regrown_of (CE01.out _ (K1.on (below_regrown _ _ _)) (K2.on (below_regrown _ _ _)))) | (go_at_call 31; with_reducible exact Calls.regrown_of (CE10.out _ (K2.on (below_regrown _ _ _)) (K1.on (below_regrown _ _ _)))) | (go_at_call 31; with_reducible exact Calls.regrown_of (CE06.out A6 c6 _ (K1.on (below_regrown _ _ _)) (K6.on (below_regrown _ _ _)))) | (go_at_call 31; with_reducible exact Calls.regrown_of (CE60.out A6 c6 _ (K6.on (below_regrown _ _ _)) (K1.on (below_regrown _ _ _)))) | (go_at_call 25; with_reducible exact Calls.regrown_of (CH.out _ (K1.on (below_regrown _ _ _)))) | (go_at_call 25; with_reducible exact Calls.regrown_of (CH6.out A6 c6 _ (K6.on (below_regrown _ _ _)))))))
    refine wpQuiet_nil ?_
    intro W hw'
    have B := below_regrown' hw'
    clear hw'
    replace BB := bon BB B
    replace D0 := IAt.on D0 B
    replace D1 := IAt.on D1 B
    replace D6 := IAt.on D6 B
    replace K1 := Rd.on K1 B
    replace K2 := Rd.on K2 B
    replace K6 := Rd.on K6 B
    replace own6 := own6.on B
    replace E6 := E6.on B
    clear D1 K2 v1 v2 B
    have i3 := D0.2.2.2
    have d3 := D6.2.2.2
    by_cases hn0 : n = 0
    · clear D0 D6 K1 K6 own6 E6 OW6 HBASE
      go_wp2_with (go_at_call 20; (with_reducible refine (iexample_b _).mono ?_); rintro _ V8 ⟨rfl, B⟩)
      go_ret
      exact ⟨rfl, bon BB B⟩
    · have hpos : 0 < n := by omega
      obtain ⟨ba, oa, x, rfl, hba, sx, x0, x1, hl0⟩ := HR.out.at_ (j := 0) hpos
      rw [u8_min] at x0
      rw [u8_max] at x1
      replace sx := cell_below BB sx
      obtain ⟨g, off, y, rfl, hy, y0, y1, hly⟩ := K6.byte (j := 0) hpos
      obtain ⟨g2, e2, hbb, _⟩ := own6.stored (j := 0) (v := 0) hpos (by rw [u8_min, u8_max]; omega)
      obtain ⟨rfl, rfl⟩ : g2 = g ∧ off = 0 := by cases e2; exact ⟨rfl, rfl⟩
      have hyx : x = y := Option.some.inj (hl0.out.symm.trans hly.out)
      subst hyx
      rw [Nat.add_zero] at sx hy
      have hg6 := OW6.out.lt
      obtain ⟨y, hy0⟩ : ∃ y, (x + 1) % 256 = y := ⟨_, rfl⟩
      have w8H := Lib.hid (show IntKind.u8.wrap (x + 1) = y by rw [IntKind.wrap_u8, hy0])
      have yr : 0 ≤ y ∧ y ≤ 255 := by omega
      have yx : y ≠ x := by omega
      have cen := fun A7 n7 c7 W R R2 => pequal_b f wd ht f wd ht (some ⟨ba, oa, none⟩) A7 n n7 c c7 l (l.set 0 y) W R R2
      rw [eqI_set HR.out.rng hl0.out yr yx] at cen
      have CEN := Lib.hid cen
      have OWN := Lib.hid own6
      have HE6 := Lib.hid E6
      have HD0 := Lib.hid D0
      clear cen own6 E6 D0 D6 K1 K6 OW6 hl0 hly
      have w8 := w8H.out
      go_wp2
      have k_d3 := cell_regrown d3
      have k_hy := cell_regrown hy
      have k_sx := cell_regrown sx
      refine wp_region_tail (n := 8) (by kernel_rfl) (by kernel_rfl) ?_
      simp only [List.take_succ_cons, List.take_zero, List.drop_succ_cons, List.drop_zero]
      repeat (first | go_big_quiet_step ((first | fail)) | quiet_step ((first | fail)))
      refine wpQuiet_nil ?_
      intro W hw'
      have B := below_regrown' hw'
      clear hw' k_d3 k_hy k_sx
      replace BB := bon BB B
      replace d3 := cell_below B d3
      replace hy := cell_below B hy
      replace sx := cell_below B sx
      have BT := Lib.hid B
      clear B
      obtain ⟨g', e', _, ⟨u, cu⟩, fu, own7, B7⟩ := (OWN.out.on BT.out).stored (j := 0) (v := y) hpos (by rw [u8_min, u8_max]; omega)
      obtain rfl : g' = g2 := by cases e'; rfl
      have hbs := HZ.out
      have D0 := (HD0.out.on BT.out).below (show w.heap.size < _ by omega) B7
      have E6 := (HE6.out.on BT.out).setOther (b' := g') (j := 0) (by omega) (.int .u8 y)
      have BC := Lib.hid (BB.trans (B7.mono (by omega)))
      obtain ⟨p0, p1, p2, p3⟩ := D0
      obtain ⟨q0, q1, q2, q3⟩ := E6.1
      have K1n := Lib.hid ((HR.out.below BC.out).more BC.out.size)
      have K7n := Lib.hid own7.rd
      have sxn := (B7.cell (p := ⟨ba, oa, none⟩) (Nat.lt_of_lt_of_le hba (by omega))).trans sx
      clear E6 own7 B7 e' w8
      go_wp2_with (first
        | (go_at_call 31; (with_reducible refine (CEN.out _ _ _ _ K1n.out K7n.out).mono ?_); rintro _ W8 ⟨rfl, B8⟩; have BD := bon BC.out B8)
        | (go_at_call 20; (with_reducible refine (iexample_b _).mono ?_); rintro _ V8 ⟨rfl, B⟩))
      go_ret
      exact ⟨rfl, bon BD B⟩

end Go.Proofs.Ytpcoihbchinckaa
