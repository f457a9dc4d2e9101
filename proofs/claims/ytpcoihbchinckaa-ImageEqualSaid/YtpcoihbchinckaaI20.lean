/- The walk of ImageGetOfSet. -/
import Derived.Test.YtpcoihbchinckaaIW
namespace Go.Proofs.Ytpcoihbchinckaa
open Go.RowKit Go.Sort

/-- A whole vector loaded, in a list of operations. -/
theorem wpList_vload {P : Program} {ops : Array Oper} {W : World} {b : Nat} {x0 x1 x2 x3 : Int} {Q : Exit → Act → World → Prop} {rest : List Oper} {o : Oper} {a : Act} (hg : o.guard = none) (t : TypeId) (x : Operand) (ho : o.op = .load t x) (T : RowType P t 4) (k : VecAt W b x0 x1 x2 x3)
    (hx : a.eval x = .pointer (some ⟨b, 0, none⟩)) (H : wpList P ops Q rest (a.put o.dst (.agg #[.int .i64 x0, .int .i64 x1, .int .i64 x2, .int .i64 x3])) W) : wpList P ops Q (o :: rest) a W :=
  wpList_plain hg fun _ hK => by
    unfold Oper.wp execOp
    simp only [ho, hx, Instr.loadAt, Instr.sureAddr, Sem.run_bind, Sem.run_pure, Result.andThen_ok, vec_load T k]
    exact hK _ _ H

theorem Im.set_ok {m : Im} (h : m.ok) (x y c0 c1 c2 c3 : Int) : (m.set x y c0 c1 c2 c3).ok := by
  unfold Im.set
  split
  · rename_i hi
    obtain ⟨p, hp, hpl, _⟩ := m.off_in hi
    exact Im.put_ok h (by rw [hp, Int.toNat_natCast, enc_len]; exact hpl)
  · exact h

set_option maxRecDepth 100000 in
set_option maxHeartbeats 2000000 in
theorem getOfSet_walk (f wd ht : Int) (A : Option Addr) (n c : Nat) (l : List Int) (x y x0 x1 x2 x3 : Int) (w : World) (R : Rd w w.heap.size .u8 A n l) (hc : n ≤ c) (hn : n ≤ 140737488351232) :
    Calls Try.prog 6 #[.agg #[.int .i64 f, .int .i64 wd, .int .i64 ht, .slice A n c], .agg #[.int .i64 x, .int .i64 y], .agg #[.int .i64 x0, .int .i64 x1, .int .i64 x2, .int .i64 x3]] w fun e w' => e = .returned (.bool true) ∧ Below w.heap.size w w' := by
  have z1 : (w.alloc (.cells #[.int .i64 f, .int .i64 wd, .int .i64 ht, .slice A n c] 25)).heap.size = w.heap.size + 1 := by simp
  have z2 : ((w.alloc (.cells #[.int .i64 f, .int .i64 wd, .int .i64 ht, .slice A n c] 25)).alloc (.cells #[.int .i64 x, .int .i64 y] 26)).heap.size = w.heap.size + 2 := by simp
  have hsz : (((w.alloc (.cells #[.int .i64 f, .int .i64 wd, .int .i64 ht, .slice A n c] 25)).alloc (.cells #[.int .i64 x, .int .i64 y] 26)).alloc (.cells #[.int .i64 x0, .int .i64 x1, .int .i64 x2, .int .i64 x3] 28)).heap.size = w.heap.size + 3 := by simp
  have b0 := box_below w #[.int .i64 f, .int .i64 wd, .int .i64 ht, .slice A n c] 25
  have b1 := box_below (w.alloc (.cells #[.int .i64 f, .int .i64 wd, .int .i64 ht, .slice A n c] 25)) #[.int .i64 x, .int .i64 y] 26
  have b2 := box_below ((w.alloc (.cells #[.int .i64 f, .int .i64 wd, .int .i64 ht, .slice A n c] 25)).alloc (.cells #[.int .i64 x, .int .i64 y] 26)) #[.int .i64 x0, .int .i64 x1, .int .i64 x2, .int .i64 x3] 28
  have D0 := ((IBox.made w f wd ht A n c 25).on b1).on b2 |>.1
  have d0 : (((w.alloc (.cells #[.int .i64 f, .int .i64 wd, .int .i64 ht, .slice A n c] 25)).alloc (.cells #[.int .i64 x, .int .i64 y] 26)).alloc (.cells #[.int .i64 x0, .int .i64 x1, .int .i64 x2, .int .i64 x3] 28)).cell? ⟨w.heap.size + 1, 0, none⟩ = some (.int .i64 x) := by rw [← z1]; exact cell_below b2 (box_cell _ _ _ 0 _ rfl)
  have d1 : (((w.alloc (.cells #[.int .i64 f, .int .i64 wd, .int .i64 ht, .slice A n c] 25)).alloc (.cells #[.int .i64 x, .int .i64 y] 26)).alloc (.cells #[.int .i64 x0, .int .i64 x1, .int .i64 x2, .int .i64 x3] 28)).cell? ⟨w.heap.size + 1, 1, none⟩ = some (.int .i64 y) := by rw [← z1]; exact cell_below b2 (box_cell _ _ _ 1 _ rfl)
  have V0 := (VBox.made ((w.alloc (.cells #[.int .i64 f, .int .i64 wd, .int .i64 ht, .slice A n c] 25)).alloc (.cells #[.int .i64 x, .int .i64 y] 26)) x0 x1 x2 x3 28).1
  rw [z2] at V0
  have BB := bon (bon b0 b1) b2
  have K1 : Rd (((w.alloc (.cells #[.int .i64 f, .int .i64 wd, .int .i64 ht, .slice A n c] 25)).alloc (.cells #[.int .i64 x, .int .i64 y] 26)).alloc (.cells #[.int .i64 x0, .int .i64 x1, .int .i64 x2, .int .i64 x3] 28)) (((w.alloc (.cells #[.int .i64 f, .int .i64 wd, .int .i64 ht, .slice A n c] 25)).alloc (.cells #[.int .i64 x, .int .i64 y] 26)).alloc (.cells #[.int .i64 x0, .int .i64 x1, .int .i64 x2, .int .i64 x3] 28)).heap.size .u8 A n l := R.on BB
  clear b0 b1 b2 z1 z2
  have hln := R.len
  have cv := fun W => pvalid_b f wd ht A n c l W hln
  by_cases hok : (Im.mk f wd ht l).ok
  · rw [decide_eq_true hok] at cv
    have cs := fun W R => pset_b f wd ht A n c l x y x0 x1 x2 x3 W R hn
    have cq := fun W => tquant_b f x0 x1 x2 x3 W
    have sf : (Im.mk f wd ht l).set x y x0 x1 x2 x3 = ⟨f, wd, ht, ((Im.mk f wd ht l).set x y x0 x1 x2 x3).l⟩ := by unfold Im.set; split <;> rfl
    have sok := Im.set_ok hok x y x0 x1 x2 x3
    have sg := fun u v (k : (Im.mk f wd ht l).ins u v) i => Im.get_set (x := x) (y := y) (c0 := x0) (c1 := x1) (c2 := x2) (c3 := x3) k i
    rw [sf] at cs sok sg
    obtain ⟨S, hS⟩ : ∃ S, ((Im.mk f wd ht l).set x y x0 x1 x2 x3).l = S := ⟨_, rfl⟩
    rw [hS] at cs sok sg
    unfold GivesIO at cs
    unfold GivesV at cq
    simp only at cs
    obtain ⟨q, hq⟩ : ∃ q, qnt f x0 x1 x2 x3 = q := ⟨_, rfl⟩
    rw [hq] at cq
    simp only [hq] at sg
    have hwh : (1 ≤ wd ∧ wd ≤ 64) ∧ (1 ≤ ht ∧ ht ≤ 64) := ⟨hok.2.1, hok.2.2.1⟩
    have cv2 := fun A n c W hl => pvalid_b f wd ht A n c S W hl
    rw [decide_eq_true sok] at cv2
    have cg := fun u v W R => pget_b f wd ht A n c l u v W R hc
    have cg2 := fun A n c u v W R hc => pget_b f wd ht A n c S u v W R hc
    unfold GivesV at cg cg2
    have CV := Lib.hid cv
    have CV2 := Lib.hid cv2
    have CS := Lib.hid cs
    have CQ := Lib.hid cq
    have CG := Lib.hid cg
    have CG2 := Lib.hid cg2
    have SG := Lib.hid sg
    have HOK := Lib.hid hok
    clear cv cv2 cs cq cg cg2 sg sok sf hS hq hln R hok
    obtain ⟨⟨wd1, wd2⟩, ⟨ht1, ht2⟩⟩ := hwh
    go_enter Try.func6, Try.ntmps6
    go_wp2_with (first
      | (refine wpList_iload rfl _ _ rfl imgT D0 rfl ?_)
      | (go_at_call 11; (with_reducible refine (CV.out _).mono ?_); rintro _ _ ⟨rfl, B⟩; (replace BB := bon BB B; replace D0 := IAt.on D0 B; replace d0 := cell_below B d0; replace d1 := cell_below B d1; replace V0 := VecAt.on V0 B; replace K1 := Rd.on K1 B); clear B))
    have k_d0 := cell_regrown d0
    have k_d1 := cell_regrown d1
    refine wp_region_quiet_below (by kernel_rfl) (by kernel_rfl) ?_
    repeat (first | (go_big_quiet_want; refine quiet_iload _ _ rfl imgT (fun W hW => IAt.on D0 (below_regrown' hW)) rfl ?_; go_simp; go_big_quiet_on) | (go_big_quiet_want; refine quiet_vload _ _ rfl vecT (fun W hW => VecAt.on V0 (below_regrown' hW)) rfl ?_; go_simp; go_big_quiet_on) | go_big_quiet_step ((first | fail)) | quiet_step ((first | fail)))
    refine wpQuiet_nil ?_
    intro W hw'
    have B := below_regrown' hw'
    clear hw' k_d0 k_d1
    replace BB := bon BB B
    replace D0 := IAt.on D0 B
    replace d0 := cell_below B d0
    replace d1 := cell_below B d1
    replace V0 := VecAt.on V0 B
    replace K1 := Rd.on K1 B
    have i0 := D0.1
    have i1 := D0.2.1
    have i2 := D0.2.2.1
    go_wp2_with (first
      | (refine wpList_iload rfl _ _ rfl imgT D0 rfl ?_)
      | (refine wpList_vload rfl _ _ rfl vecT V0 rfl ?_)
      | (go_at_call 18; (with_reducible refine (CS.out _ K1).mono ?_); rintro _ W1 ⟨A9, n9, c9, rfl, own9, B⟩; (replace BB := bon BB B; replace D0 := IAt.on D0 B; replace d0 := cell_below B d0; replace d1 := cell_below B d1; replace V0 := VecAt.on V0 B; replace K1 := Rd.on K1 B); clear B; have hw1 := block_lt_of_cell V0.1; have bx := box_below W1 #[.int .i64 f, .int .i64 wd, .int .i64 ht, .slice A9 n9 c9] 25; have D9 := (IBox.made W1 f wd ht A9 n9 c9 25).1; have K9 := (own9.on bx).rd; have hl9 := own9.len; have hc9 := own9.room; have hlt9 : W1.heap.size < (W1.alloc (.cells #[.int .i64 f, .int .i64 wd, .int .i64 ht, .slice A9 n9 c9] 25)).heap.size := (by simp); replace D0 := IAt.on D0 bx; replace V0 := VecAt.on V0 bx; replace K1 := K1.on bx; replace BB := bon BB bx; clear bx own9 d0 d1 i0 i1 i2; have i0 := D0.1; have i1 := D0.2.1; have i2 := D0.2.2.1; have j0 := D9.1; have j1 := D9.2.1; have j2 := D9.2.2.1)
      | (refine wpList_iload rfl _ _ rfl imgT D9 rfl ?_)
      | (go_at_call 11; (with_reducible refine (CV2.out _ _ _ _ hl9).mono ?_); rintro _ _ ⟨rfl, B⟩; have hlt8 := B.size; replace D0 := IAt.on D0 B; replace V0 := VecAt.on V0 B; replace D9 := IAt.on D9 B; replace K1 := K1.on B; replace K9 := K9.on B; replace BB := bon BB B; clear B; replace i0 := D0.1; replace i1 := D0.2.1; replace i2 := D0.2.2.1; replace j0 := D9.1; replace j1 := D9.2.1; replace j2 := D9.2.2.1))
    obtain ⟨H, rfl⟩ : ∃ H : Nat, ht = H := ⟨ht.toNat, by omega⟩
    obtain ⟨N, rfl⟩ : ∃ N : Nat, wd = N := ⟨wd.toNat, by omega⟩
    have hgt : W1.heap.size < _ := Nat.lt_of_lt_of_le hlt9 hlt8
    clear i0 i1 i2 j0 j1 j2 hlt9 hlt8
    go_loopw [10] (fun t wr => ∃ v : Nat, v ≤ H ∧ t = .int .i64 (v : Int) ∧ IAt wr w.heap.size f N H A n c ∧ VecAt wr (w.heap.size + 2) x0 x1 x2 x3 ∧ IAt wr W1.heap.size f N H A9 n9 c9 ∧ Rd wr wr.heap.size .u8 A n l ∧ Rd wr wr.heap.size .u8 A9 n9 S ∧ Below w.heap.size w wr ∧ W1.heap.size < wr.heap.size) (fun t _ => H - (intOf t).toNat)
    case atStart => exact ⟨0, by omega, rfl, D0, V0, D9, K1, K9, BB, hgt⟩
    case round =>
      clear D0 V0 D9 K1 K9 BB hgt
      obtain ⟨v, hv, rfl, D0, V0, D9, K1, K9, BB, hgt⟩ := hrel
      have i2 := D0.2.2.1
      by_cases hvH : v < H
      · go_wp2
        clear i2
        go_loopw [11] (fun t wr => ∃ u : Nat, u ≤ N ∧ t = .int .i64 (u : Int) ∧ IAt wr w.heap.size f N H A n c ∧ VecAt wr (w.heap.size + 2) x0 x1 x2 x3 ∧ IAt wr W1.heap.size f N H A9 n9 c9 ∧ Rd wr wr.heap.size .u8 A n l ∧ Rd wr wr.heap.size .u8 A9 n9 S ∧ Below w.heap.size w wr ∧ W1.heap.size < wr.heap.size) (fun t _ => N - (intOf t).toNat)
        case atStart => exact ⟨0, by omega, rfl, D0, V0, D9, K1, K9, BB, hgt⟩
        case round =>
          clear D0 V0 D9 K1 K9 BB hgt
          obtain ⟨u, hu, rfl, D0, V0, D9, K1, K9, BB, hgt⟩ := hrel
          have i1 := D0.2.1
          by_cases huN : u < N
          · have hin : (Im.mk f N H l).ins u v := ⟨HOK.out, ⟨by omega, by simp only; omega⟩, ⟨by omega, by simp only; omega⟩⟩
            have sg := SG.out u v hin
            obtain ⟨g, hg⟩ : ∃ g, (Im.mk f N H l).get u v = g := ⟨_, rfl⟩
            obtain ⟨s, hs⟩ : ∃ s, (Im.mk f N H S).get u v = s := ⟨_, rfl⟩
            have cg := fun W R => CG.out u v W R
            have cg2 := fun W R => CG2.out A9 n9 c9 u v W R hc9
            rw [hg] at cg
            rw [hs] at cg2
            rw [hs, hg] at sg
            by_cases he : (u : Int) = x ∧ (v : Int) = y
            · have es : s = q := funext fun i => by rw [sg, if_pos he]
              rw [es] at cg2
              have CGU := Lib.hid cg
              have CGS := Lib.hid cg2
              obtain ⟨rfl, rfl⟩ := he
              clear cg cg2 sg hg hs es hin
              go_wp2_with (first
                | (refine wpList_iload rfl _ _ rfl imgT D0 rfl ?_)
                | (refine wpList_vload rfl _ _ rfl vecT V0 rfl ?_)
                | (go_at_call 15; (with_reducible refine (CGU.out _ K1).mono ?_); rintro _ W3 ⟨rfl, B⟩; replace D0 := IAt.on D0 B; replace V0 := VecAt.on V0 B; replace D9 := IAt.on D9 B; replace K1 := K1.on B; replace K9 := K9.on B; replace BB := bon BB B; replace hgt := Nat.lt_of_lt_of_le hgt B.size; have hg3 := hgt; have hs3 := BB.size; have K1B := K1; have K9B := K9; clear B; have bx := box_below W3 #[.int .i64 (g 0), .int .i64 (g 1), .int .i64 (g 2), .int .i64 (g 3)] 28; have DW := VBox.made W3 (g 0) (g 1) (g 2) (g 3) 28; replace D0 := IAt.on D0 bx; replace V0 := VecAt.on V0 bx; replace D9 := IAt.on D9 bx; replace K1 := K1.on bx; replace K9 := K9.on bx; replace BB := bon BB bx; replace hgt := Nat.lt_of_lt_of_le hgt bx.size; have K1B' := K1B; replace K1B := K1B.below bx; replace K9B := K9B.below bx; clear bx i1 K1B'; have i0 := D0.1)
                | (go_at_call 30; (with_reducible refine (CQ.out _).mono ?_); rintro _ W4 ⟨rfl, B⟩; have hsW := DW.lt; replace D0 := IAt.on D0 B; replace V0 := VecAt.on V0 B; replace D9 := IAt.on D9 B; replace K1 := K1.on B; replace K9 := K9.on B; replace BB := bon BB B; replace hgt := Nat.lt_of_lt_of_le hgt B.size; replace DW := DW.on B; replace K1B := K1B.below (B.mono (by omega)); replace K9B := K9B.below (B.mono (by omega)); clear B)
                | (refine wpList_vset rfl _ _ _ rfl _ _ _ _ rfl rfl DW (by kernel_rfl) ?_; intro W5 B5 DW5 _ _))
              have hh : w.heap.size + 2 < W3.heap.size := by omega
              replace D0 := D0.below (show w.heap.size < W3.heap.size by omega) B5
              replace V0 := V0.below hh B5
              replace D9 := D9.below hg3 B5
              replace K1 := (K1B.below B5).more (Nat.le_of_lt DW5.lt)
              replace K9 := (K9B.below B5).more (Nat.le_of_lt DW5.lt)
              replace BB := BB.trans (B5.mono (by omega))
              replace hgt := Nat.lt_of_lt_of_le hgt B5.size
              have VW := DW5.1
              clear DW DW5 B5 i0
              go_simp
              refine wp_region_quiet_below (by kernel_rfl) (by kernel_rfl) ?_
              repeat (first | (go_big_quiet_want; refine quiet_iload _ _ rfl imgT (fun W hW => IAt.on D0 (below_regrown' hW)) rfl ?_; go_simp; go_big_quiet_on) | (go_big_quiet_want; refine quiet_iload _ _ rfl imgT (fun W hW => IAt.on D9 (below_regrown' hW)) rfl ?_; go_simp; go_big_quiet_on) | (go_big_quiet_want; refine quiet_vload _ _ rfl vecT (fun W hW => VecAt.on V0 (below_regrown' hW)) rfl ?_; go_simp; go_big_quiet_on) | (go_big_quiet_want; refine quiet_vload _ _ rfl vecT (fun W hW => VecAt.on VW (below_regrown' hW)) rfl ?_; go_simp; go_big_quiet_on) | go_big_quiet_step ((first | (go_at_call 15; exact Calls.regrown_of (CGS.out _ (K9.on (below_regrown _ _ _)))))) | quiet_step ((first | (go_at_call 15; exact Calls.regrown_of (CGS.out _ (K9.on (below_regrown _ _ _)))))))
              refine wpQuiet_nil ?_
              intro W hw'
              have B := below_regrown' hw'
              clear hw'
              replace BB := bon BB B
              replace D0 := IAt.on D0 B
              replace V0 := VecAt.on V0 B
              replace D9 := IAt.on D9 B
              replace VW := VecAt.on VW B
              replace K1 := Rd.on K1 B
              replace K9 := Rd.on K9 B
              go_wp2
              go_roundw
              case rel => exact ⟨u + 1, by omega, by go_num, D0, V0, D9, K1, K9, BB, by have := B.size; omega⟩
              case measure => simp [intOf]; omega
            · have es : s = g := funext fun i => by rw [sg, if_neg he]
              rw [es] at cg2
              have CGU := Lib.hid cg
              have CGS := Lib.hid cg2
              clear cg cg2 sg hg hs es hin
              rcases (show (u : Int) ≠ x ∨ ((u : Int) = x ∧ (v : Int) ≠ y) by omega) with h1 | ⟨rfl, h1⟩
              · have hb : ((u : Int) == x) = false := by simp [h1]
                go_wp2_with (first
                  | (refine wpList_iload rfl _ _ rfl imgT D0 rfl ?_)
                  | (go_at_call 15; (with_reducible refine (CGU.out _ K1).mono ?_); rintro _ W3 ⟨rfl, B⟩; replace D0 := IAt.on D0 B; replace V0 := VecAt.on V0 B; replace D9 := IAt.on D9 B; replace K1 := K1.on B; replace K9 := K9.on B; replace BB := bon BB B; replace hgt := Nat.lt_of_lt_of_le hgt B.size; clear B; have bx := box_below W3 #[.int .i64 (g 0), .int .i64 (g 1), .int .i64 (g 2), .int .i64 (g 3)] 28; have DW := VBox.made W3 (g 0) (g 1) (g 2) (g 3) 28; replace D0 := IAt.on D0 bx; replace V0 := VecAt.on V0 bx; replace D9 := IAt.on D9 bx; replace K1 := K1.on bx; replace K9 := K9.on bx; replace BB := bon BB bx; replace hgt := Nat.lt_of_lt_of_le hgt bx.size; clear bx i1; have i0 := D0.1))
                have VW := DW.1
                clear DW i0
                refine wp_region_quiet_below (by kernel_rfl) (by kernel_rfl) ?_
                repeat (first | (go_big_quiet_want; refine quiet_iload _ _ rfl imgT (fun W hW => IAt.on D0 (below_regrown' hW)) rfl ?_; go_simp; go_big_quiet_on) | (go_big_quiet_want; refine quiet_iload _ _ rfl imgT (fun W hW => IAt.on D9 (below_regrown' hW)) rfl ?_; go_simp; go_big_quiet_on) | (go_big_quiet_want; refine quiet_vload _ _ rfl vecT (fun W hW => VecAt.on V0 (below_regrown' hW)) rfl ?_; go_simp; go_big_quiet_on) | (go_big_quiet_want; refine quiet_vload _ _ rfl vecT (fun W hW => VecAt.on VW (below_regrown' hW)) rfl ?_; go_simp; go_big_quiet_on) | go_big_quiet_step ((first | (go_at_call 15; exact Calls.regrown_of (CGS.out _ (K9.on (below_regrown _ _ _)))))) | quiet_step ((first | (go_at_call 15; exact Calls.regrown_of (CGS.out _ (K9.on (below_regrown _ _ _)))))))
                refine wpQuiet_nil ?_
                intro W hw'
                have B := below_regrown' hw'
                clear hw'
                replace BB := bon BB B
                replace D0 := IAt.on D0 B
                replace V0 := VecAt.on V0 B
                replace D9 := IAt.on D9 B
                replace VW := VecAt.on VW B
                replace K1 := Rd.on K1 B
                replace K9 := Rd.on K9 B
                go_wp2
                go_roundw
                case rel => exact ⟨u + 1, by omega, by go_num, D0, V0, D9, K1, K9, BB, by have := B.size; omega⟩
                case measure => simp [intOf]; omega
              · have hb : ((v : Int) == y) = false := by simp [h1]
                go_wp2_with (first
                  | (refine wpList_iload rfl _ _ rfl imgT D0 rfl ?_)
                  | (go_at_call 15; (with_reducible refine (CGU.out _ K1).mono ?_); rintro _ W3 ⟨rfl, B⟩; replace D0 := IAt.on D0 B; replace V0 := VecAt.on V0 B; replace D9 := IAt.on D9 B; replace K1 := K1.on B; replace K9 := K9.on B; replace BB := bon BB B; replace hgt := Nat.lt_of_lt_of_le hgt B.size; clear B; have bx := box_below W3 #[.int .i64 (g 0), .int .i64 (g 1), .int .i64 (g 2), .int .i64 (g 3)] 28; have DW := VBox.made W3 (g 0) (g 1) (g 2) (g 3) 28; replace D0 := IAt.on D0 bx; replace V0 := VecAt.on V0 bx; replace D9 := IAt.on D9 bx; replace K1 := K1.on bx; replace K9 := K9.on bx; replace BB := bon BB bx; replace hgt := Nat.lt_of_lt_of_le hgt bx.size; clear bx i1; have i0 := D0.1))
                have VW := DW.1
                clear DW i0
                refine wp_region_quiet_below (by kernel_rfl) (by kernel_rfl) ?_
                repeat (first | (go_big_quiet_want; refine quiet_iload _ _ rfl imgT (fun W hW => IAt.on D0 (below_regrown' hW)) rfl ?_; go_simp; go_big_quiet_on) | (go_big_quiet_want; refine quiet_iload _ _ rfl imgT (fun W hW => IAt.on D9 (below_regrown' hW)) rfl ?_; go_simp; go_big_quiet_on) | (go_big_quiet_want; refine quiet_vload _ _ rfl vecT (fun W hW => VecAt.on V0 (below_regrown' hW)) rfl ?_; go_simp; go_big_quiet_on) | (go_big_quiet_want; refine quiet_vload _ _ rfl vecT (fun W hW => VecAt.on VW (below_regrown' hW)) rfl ?_; go_simp; go_big_quiet_on) | go_big_quiet_step ((first | (go_at_call 15; exact Calls.regrown_of (CGS.out _ (K9.on (below_regrown _ _ _)))))) | quiet_step ((first | (go_at_call 15; exact Calls.regrown_of (CGS.out _ (K9.on (below_regrown _ _ _)))))))
                refine wpQuiet_nil ?_
                intro W hw'
                have B := below_regrown' hw'
                clear hw'
                replace BB := bon BB B
                replace D0 := IAt.on D0 B
                replace V0 := VecAt.on V0 B
                replace D9 := IAt.on D9 B
                replace VW := VecAt.on VW B
                replace K1 := Rd.on K1 B
                replace K9 := Rd.on K9 B
                go_wp2
                go_roundw
                case rel => exact ⟨u + 1, by omega, by go_num, D0, V0, D9, K1, K9, BB, by have := B.size; omega⟩
                case measure => simp [intOf]; omega
          · obtain rfl : u = N := by omega
            go_wp2
            go_roundw
            case rel => exact ⟨v + 1, by omega, by go_num, D0, V0, D9, K1, K9, BB, hgt⟩
            case measure => simp [intOf]; omega
      · obtain rfl : v = H := by omega
        go_wp2_with (go_at_call 20; (with_reducible refine (iexample_b _).mono ?_); rintro _ V8 ⟨rfl, B⟩)
        go_ret
        exact ⟨rfl, bon BB B⟩
  · rw [decide_eq_false hok] at cv
    have CV := Lib.hid cv
    clear cv hok hln R
    go_enter Try.func6, Try.ntmps6
    go_wp2_with (first
      | (refine wpList_iload rfl _ _ rfl imgT D0 rfl ?_)
      | (go_at_call 11; (with_reducible refine (CV.out _).mono ?_); rintro _ _ ⟨rfl, B⟩; (replace BB := bon BB B; replace D0 := IAt.on D0 B; replace d0 := cell_below B d0; replace d1 := cell_below B d1; replace V0 := VecAt.on V0 B; replace K1 := Rd.on K1 B); clear B)
      | (go_at_call 20; (with_reducible refine (iexample_b _).mono ?_); rintro _ V8 ⟨rfl, B⟩; (replace BB := bon BB B; replace D0 := IAt.on D0 B; replace d0 := cell_below B d0; replace d1 := cell_below B d1; replace V0 := VecAt.on V0 B; replace K1 := Rd.on K1 B); clear B))
    go_ret
    exact ⟨rfl, BB⟩

end Go.Proofs.Ytpcoihbchinckaa
