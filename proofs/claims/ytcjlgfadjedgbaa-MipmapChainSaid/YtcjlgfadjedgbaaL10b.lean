/- Reduce of the reference: case b. -/
import Derived.Test.YtcjlgfadjedgbaaL10
namespace Go.Proofs.Ytcjlgfadjedgbaa
open Go.RowKit Go.Sort Go.ChangeShapes Go.WideShapes

set_option maxRecDepth 100000 in
set_option maxHeartbeats 40000000 in
theorem rreduceb_b (f wd ht : Int) (A : Option Addr) (n c : Nat) (l : List Int) (w : World) (R : Rd w w.heap.size .u8 A n l) (hc : n ≤ c) (hok : (Im.mk f wd ht l).ok) (h1 : wd = 1) (h2 : ht ≠ 1) :
    Calls Try.prog 15 #[.agg #[.int .i64 f, .int .i64 wd, .int .i64 ht, .slice A n c]] w (GivesIO w 5 (Im.mk f wd ht l).red) := by
  rw [red_yes hok (fun k => h2 k.2)]
  have t1 : (wd == 1) = true := by simp [h1]
  have t2 : (ht == 1) = false := by simp [h2]
  clear h1 h2
  have D := IBox.made w f wd ht A n c 25
  have b0 := box_below w #[.int .i64 f, .int .i64 wd, .int .i64 ht, .slice A n c] 25
  have z1 : (w.alloc (.cells #[.int .i64 f, .int .i64 wd, .int .i64 ht, .slice A n c] 25)).heap.size = w.heap.size + 1 := by simp
  have E2 := IBox.made (w.alloc (.cells #[.int .i64 f, .int .i64 wd, .int .i64 ht, .slice A n c] 25)) 0 0 0 none 0 0 25
  have b2 := box_below (w.alloc (.cells #[.int .i64 f, .int .i64 wd, .int .i64 ht, .slice A n c] 25)) #[.int .i64 0, .int .i64 0, .int .i64 0, .slice none 0 0] 25
  replace D := (D.on b2).1
  have BB := bon b0 b2
  rw [z1] at E2
  have HR := Lib.hid R
  have cv := fun W => rivalid_b f wd ht A n c l W R.len
  rw [decide_eq_true hok] at cv
  have CV := Lib.hid cv
  unfold GivesIO
  clear b0 b2 z1 R cv
  obtain ⟨hz, hw, hh, hlen⟩ := hok
  simp only at hz hw hh hlen ⊢
  have hsw := hfs_side (n := wd) hw 1
  have hsh := hfs_side (n := ht) hh 1
  have e1 : hfs wd 1 = if 1 < wd / 2 then wd / 2 else 1 := by show (if wd / 2 < 1 then 1 else wd / 2) = _; split <;> split <;> omega
  have e2 : hfs ht 1 = if 1 < ht / 2 then ht / 2 else 1 := by show (if ht / 2 < 1 then 1 else ht / 2) = _; split <;> split <;> omega
  obtain ⟨w1, w2⟩ := hw
  obtain ⟨h1, h2⟩ := hh
  obtain ⟨Wn, hW⟩ : ∃ W : Nat, hfs wd 1 = W := ⟨(hfs wd 1).toNat, by have := hsw.1; omega⟩
  obtain ⟨Hn, hH⟩ : ∃ H : Nat, hfs ht 1 = H := ⟨(hfs ht 1).toNat, by have := hsh.1; omega⟩
  rw [hW] at e1 ⊢
  rw [hH] at e2 ⊢
  have hWs : ∀ X : Nat, X < Wn → 2 * (X : Int) ≤ wd - 1 := fun X hX => by split at e1 <;> omega
  have hHs : ∀ Y : Nat, Y < Hn → 2 * (Y : Int) ≤ ht - 1 := fun Y hY => by split at e2 <;> omega
  have hW32 : Wn ≤ 32 := by split at e1 <;> omega
  have hH32 : Hn ≤ 32 := by split at e2 <;> omega
  rw [Int.toNat_natCast, Int.toNat_natCast]
  have hrow := fun Y X (h : X < Wn) => rpre_row (m := Im.mk f wd ht l) (W := Wn) (x := X) (y := Y) h
  have hrlen := fun k => rpre_len (Im.mk f wd ht l) Wn k
  have hr0 : rpre (Im.mk f wd ht l) Wn 0 = [] := rfl
  have htx : ∀ (X Y : Nat) (r s : Int), (if wd - 1 < 2 * (X : Int) + 1 then wd - 1 else 2 * (X : Int) + 1) = r → (if ht - 1 < 2 * (Y : Int) + 1 then ht - 1 else 2 * (Y : Int) + 1) = s →
      rtx (Im.mk f wd ht l) X Y = (fun av : Nat → Int => enc f (av 0) (av 1) (av 2) (av 3)) fun i => rda ((Im.mk f wd ht l).get (2 * X) (2 * Y) i + (Im.mk f wd ht l).get r (2 * Y) i + (Im.mk f wd ht l).get (2 * X) s i + (Im.mk f wd ht l).get r s i) 4 := by
    rintro X Y _ _ rfl rfl
    rfl
  have hel := fun X Y : Int => rtx_len (Im.mk f wd ht l) X Y
  simp only at hrlen hel
  have hHW : Hn * Wn ≤ 32 * 32 := Nat.mul_le_mul (by omega) (by omega)
  have gb := fun u v i => get_bd (Im.mk f wd ht l) u v i
  have cg := fun x y W R => riget_b f wd ht A n c l x y W R hc
  unfold GivesV at cg
  obtain ⟨G, hG⟩ : ∃ G, (Im.mk f wd ht l).get = G := ⟨_, rfl⟩
  obtain ⟨P, hP⟩ : ∃ P, rpre (Im.mk f wd ht l) Wn = P := ⟨_, rfl⟩
  obtain ⟨TX, hTX⟩ : ∃ TX : Int → Int → List Int, rtx (Im.mk f wd ht l) = TX := ⟨_, rfl⟩
  rw [hP] at hrow hrlen hr0 ⊢
  rw [hG] at gb
  simp only [hG] at htx cg
  rw [hTX] at hrow hel
  simp only [hTX] at htx
  obtain ⟨sz8, hs⟩ : ∃ s, nsz f = s := ⟨_, rfl⟩
  have hs8 := nsz_le f
  have hz0 : 0 < nsz f := Nat.pos_of_ne_zero hz
  rw [hs] at hrlen hel hs8 hz0
  have HROW := Lib.hid hrow
  have HRL := Lib.hid hrlen
  have HR0 := Lib.hid hr0
  have HTX := Lib.hid htx
  have HEL := Lib.hid hel
  have HWS := Lib.hid hWs
  have HHS := Lib.hid hHs
  have GB := Lib.hid gb
  have CG := Lib.hid cg
  have HE1 := Lib.hid e1.symm
  have HE2 := Lib.hid e2.symm
  clear hrow hrlen hr0 htx hel hWs hHs gb cg e1 e2 hsw hsh hW hH hP hTX hG hs hz hlen
  obtain ⟨sz, hsz⟩ : ∃ s, w.heap.size = s := ⟨_, rfl⟩
  rw [hsz] at D E2
  obtain ⟨j0, j1, j2, j3⟩ := id D
  go_enter Try.func15, Try.ntmps15
  rw [hsz]
  go_wp2_with (first
    | (refine wpList_iload rfl _ _ rfl imgT D rfl ?_)
    | (go_at_call 20; (with_reducible refine (CV.out _).mono ?_); rintro _ V1 ⟨rfl, B⟩; clear j0 j1 j2 j3; have hlt2 := Nat.lt_of_lt_of_le E2.lt B.size; replace D := D.on B; replace E2 := E2.on B; replace BB := bon BB B; clear B; obtain ⟨j0, j1, j2, j3⟩ := id D)
    | (refine wpList_max rfl _ _ _ rfl rfl rfl HE1.out ?_)
    | (refine wpList_max rfl _ _ _ rfl rfl rfl HE2.out ?_)
    | (refine wpList_iset rfl _ _ _ rfl rfl rfl (IBox.made V1 0 0 0 none 0 0 25) (by kernel_rfl) ?_; intro V3 B3 EO3 hg3 hz3))
  have bx := box_below V1 #[.int .i64 0, .int .i64 0, .int .i64 0, .slice none 0 0] 25
  have hb3 : V3.heap.size = V1.heap.size + 1 := by rw [hz3]; simp
  replace D := (D.on bx).below (by omega) B3
  replace E2 := (E2.on bx).below (by omega) B3
  replace BB := (bon BB bx).trans (B3.mono BB.size)
  have ON := Own.nil V3 5 .u8
  obtain ⟨bO, hbO⟩ : ∃ b, V1.heap.size = b := ⟨_, rfl⟩
  obtain ⟨bs, hbs⟩ : ∃ b, V3.heap.size = b := ⟨_, rfl⟩
  rw [hbO] at EO3 hlt2 hb3 ⊢
  rw [hbs] at hb3 ON
  have hwb : w.heap.size ≤ bs := by omega
  have CE := Lib.hid (fun f x0 x1 x2 x3 W => rencode_b f x0 x1 x2 x3 W)
  unfold GivesRd at CE
  obtain ⟨i0, hi0⟩ : ∃ i, i = (0 : Nat) := ⟨0, rfl⟩
  clear hi0 i0 j0 j1 j2 j3 bx B3 hz3 hg3 CV HE1 HE2 hbO hbs
  go_loopw [4] (fun i wr => ∃ (Y m d : Nat) (A9 : Option Addr), Y ≤ Hn ∧ i = .int .i64 Y ∧ IAt wr sz f wd ht A n c ∧ IBox wr (sz + 1) 0 0 0 none 0 0 ∧ IBox wr bO f Wn Hn A9 m d ∧ Own wr bs 5 .u8 A9 m d (P (Y * Wn)) ∧ Below w.heap.size w wr) (fun i _ => Hn - (intOf i).toNat)
  case atStart => exact ⟨0, 0, 0, none, by omega, rfl, D, E2, EO3, by rw [Nat.zero_mul, HR0.out]; exact ON, BB⟩
  case round =>
    clear D E2 EO3 ON BB
    obtain ⟨Y, m, d, A9, hY, rfl, D, E2, EO, own, BB⟩ := hrel
    have OWN := Lib.hid own
    clear own
    obtain ⟨⟨k0, k1, k2, k3⟩, _⟩ := id EO
    by_cases hYH : Y < Hn
    · go_wp2
      clear k0 k1 k2 k3
      go_loopw [5] (fun i wq => ∃ (X m d : Nat) (A9 : Option Addr), X ≤ Wn ∧ i = .int .i64 X ∧ IAt wq sz f wd ht A n c ∧ IBox wq (sz + 1) 0 0 0 none 0 0 ∧ IBox wq bO f Wn Hn A9 m d ∧ Own wq bs 5 .u8 A9 m d (P (Y * Wn + X)) ∧ Below w.heap.size w wq) (fun i _ => Wn - (intOf i).toNat)
      case atStart => exact ⟨0, m, d, A9, by omega, rfl, D, E2, EO, by rw [Nat.add_zero]; exact OWN.out, BB⟩
      case round =>
        clear D E2 EO OWN BB
        obtain ⟨X, m, d, A9, hX, rfl, D, E2, EO, own, BB⟩ := hrel
        have hm := own.len
        rw [HRL.out] at hm
        have OWN := Lib.hid own
        clear own
        obtain ⟨⟨k0, k1, k2, k3⟩, _⟩ := id EO
        by_cases hXW : X < Wn
        · have hx2 := HWS.out X hXW
          have hy2 := HHS.out Y hYH
          have gX : IntKind.i64.wrap (2 * (X : Int)) = 2 * (X : Int) := IntWalk.i64_in _ (by omega)
          have gY : IntKind.i64.wrap (2 * (Y : Int)) = 2 * (Y : Int) := IntWalk.i64_in _ (by omega)
          have gX1 : IntKind.i64.wrap (2 * (X : Int) + 1) = 2 * (X : Int) + 1 := IntWalk.i64_in _ (by omega)
          have gY1 : IntKind.i64.wrap (2 * (Y : Int) + 1) = 2 * (Y : Int) + 1 := IntWalk.i64_in _ (by omega)
          have gw : IntKind.i64.wrap (wd - 1) = wd - 1 := IntWalk.i64_in _ (by omega)
          have gh : IntKind.i64.wrap (ht - 1) = ht - 1 := IntWalk.i64_in _ (by omega)
          have HM1 : Hid ((if wd - 1 < 2 * (X : Int) then wd - 1 else 2 * (X : Int)) = 2 * (X : Int)) := Lib.hid (if_neg (by omega))
          have HM2 : Hid ((if ht - 1 < 2 * (Y : Int) then ht - 1 else 2 * (Y : Int)) = 2 * (Y : Int)) := Lib.hid (if_neg (by omega))
          have hYX : Y * Wn + X + 1 ≤ Hn * Wn := by
            have h1 : (Y + 1) * Wn ≤ Hn * Wn := Nat.mul_le_mul_right _ hYH
            rw [Nat.add_mul, Nat.one_mul] at h1
            omega
          have hms : m + sz8 ≤ 8192 := by
            have h1 : (Y * Wn + X + 1) * sz8 ≤ Hn * Wn * sz8 := Nat.mul_le_mul_right _ hYX
            rw [Nat.add_mul, Nat.one_mul] at h1
            have h2 : Hn * Wn * sz8 ≤ 1024 * 8 := Nat.mul_le_mul (by omega) hs8
            omega
          obtain ⟨r, hr⟩ : ∃ r, (if wd - 1 < 2 * (X : Int) + 1 then wd - 1 else 2 * (X : Int) + 1) = r := ⟨_, rfl⟩
          obtain ⟨s, hs⟩ : ∃ s, (if ht - 1 < 2 * (Y : Int) + 1 then ht - 1 else 2 * (Y : Int) + 1) = s := ⟨_, rfl⟩
          have htx := HTX.out X Y r s hr hs
          have cg0 := fun W R => CG.out (2 * (X : Int)) (2 * (Y : Int)) W R
          have cg1 := fun W R => CG.out r (2 * (Y : Int)) W R
          have cg2 := fun W R => CG.out (2 * (X : Int)) s W R
          have cg3 := fun W R => CG.out r s W R
          have ga := fun i => GB.out (2 * (X : Int)) (2 * (Y : Int)) i
          have gb := fun i => GB.out r (2 * (Y : Int)) i
          have gc := fun i => GB.out (2 * (X : Int)) s i
          have gd := fun i => GB.out r s i
          obtain ⟨va, hva⟩ : ∃ v, G (2 * (X : Int)) (2 * (Y : Int)) = v := ⟨_, rfl⟩
          obtain ⟨vb, hvb⟩ : ∃ v, G r (2 * (Y : Int)) = v := ⟨_, rfl⟩
          obtain ⟨vc, hvc⟩ : ∃ v, G (2 * (X : Int)) s = v := ⟨_, rfl⟩
          obtain ⟨vd, hvd⟩ : ∃ v, G r s = v := ⟨_, rfl⟩
          simp only [hva] at cg0 ga htx
          simp only [hvb] at cg1 gb htx
          simp only [hvc] at cg2 gc htx
          simp only [hvd] at cg3 gd htx
          have ca := fun i W => raverage_b (va i) (vb i) (vc i) (vd i) W (ga i) (gb i) (gc i) (gd i)
          obtain ⟨av, hav⟩ : ∃ av : Nat → Int, (fun i => rda (va i + vb i + vc i + vd i) 4) = av := ⟨_, rfl⟩
          have hav2 := fun i => congrFun hav i
          simp only [hav2] at htx ca
          have CG0 := Lib.hid cg0
          have CG1 := Lib.hid cg1
          have CG2 := Lib.hid cg2
          have CG3 := Lib.hid cg3
          have CA0 := Lib.hid (ca 0)
          have CA1 := Lib.hid (ca 1)
          have CA2 := Lib.hid (ca 2)
          have CA3 := Lib.hid (ca 3)
          have HO := Lib.hid (HROW.out Y X hXW)
          have HT := Lib.hid htx
          clear cg0 cg1 cg2 cg3 ga gb gc gd ca hav hav2 hva hvb hvc hvd htx hYX hm
          have KX := (HR.out.below BB).more BB.size
          have hne := fun b (h : _ ≤ b) => own_ne (b := b) OWN.out h
          go_wp2
          clear k0 k1 k2 k3
          obtain ⟨i0, i1, i2, i3⟩ := id D
          have k_i1 := cell_regrown i1
          have k_i2 := cell_regrown i2
          refine wp_region_quiet_below (by kernel_rfl) (by kernel_rfl) ?_
          repeat (first | go_big_quiet_step ((first | fail)) | quiet_step ((first | fail)))
          refine wpQuiet_nil ?_
          intro W hw'
          have B := below_regrown' hw'
          clear hw' k_i1 k_i2
          replace BB := bon BB B
          replace i1 := cell_below B i1
          replace i2 := cell_below B i2
          replace D := D.on B
          replace E2 := E2.on B
          replace EO := EO.on B
          have OWN1 := Lib.hid (OWN.out.on B)
          clear OWN
          have OWN := OWN1
          clear OWN1
          replace KX := KX.on B
          clear B i0 i1 i2 i3 hr hs gX1 gY1
          go_wp2_with fail
          refine wp_region_dag (raSt W sz f wd ht A n c X Y r s va vb vc vd) (fun U => Below W.heap.size W U) [0, 1, 2, 3, 4, 5, 6, 7, 8, 9, 10, 11, 12, 14, 15, 16, 17, 18, 19, 20, 21] raDag 13 (by kernel_rfl) (by kernel_rfl) (fun U hB => hB) ?_ ?_ ?_
          · intro V0 F
            refine rd_step rfl ?_
            refine wpQuiet_step (fun K hK => ?_)
            rw [if_pos (by rfl)]
            refine quiet_iload _ _ rfl imgT (fun W hW => D.on hW) rfl ?_
            go_simp
            refine hK _ ?_
            clear hK K
            refine wpQuiet_nil ?_
            refine rd_step rfl ?_
            refine wpQuiet_step (fun K hK => ?_)
            rw [if_pos (by rfl)]
            first | refine quiet_move _ rfl ?_ | refine quiet_assign _ rfl ?_
            go_simp
            refine hK _ ?_
            clear hK K
            refine wpQuiet_nil ?_
            refine rd_step rfl ?_
            refine wpQuiet_step (fun K hK => ?_)
            rw [if_pos (by rfl)]
            refine quiet_val (.int .i64 (2 * (X : Int))) (fun W hW => by simp [execOp, go_sem, gX]) ?_
            go_simp
            refine hK _ ?_
            clear hK K
            refine wpQuiet_nil ?_
            refine rd_step rfl ?_
            refine wpQuiet_step (fun K hK => ?_)
            rw [if_pos (by rfl)]
            refine quiet_val (.pointer (some ⟨sz, 1, none⟩)) (fun W hW => by simp [execOp, go_sem]) ?_
            go_simp
            refine hK _ ?_
            clear hK K
            refine wpQuiet_nil ?_
            refine rd_step rfl ?_
            refine wpQuiet_step (fun K hK => ?_)
            rw [if_pos (by rfl)]
            refine quiet_val (.int .i64 wd) (fun W hW => by have h0 := (D.on hW).2.1; simp [execOp, go_sem, h0]) ?_
            go_simp
            refine hK _ ?_
            clear hK K
            refine wpQuiet_nil ?_
            refine rd_step rfl ?_
            refine wpQuiet_step (fun K hK => ?_)
            rw [if_pos (by rfl)]
            refine quiet_val (.int .i64 (wd - 1)) (fun W hW => by simp [execOp, go_sem, gw]) ?_
            go_simp
            refine hK _ ?_
            clear hK K
            refine wpQuiet_nil ?_
            refine rd_step rfl ?_
            refine wpQuiet_step (fun K hK => ?_)
            rw [if_pos (by rfl)]
            refine quiet_val (.int .i64 (2 * (X : Int))) (fun W hW => by simp [execOp, go_sem, Builtin.min_, Builtin.min2, HM1.out]) ?_
            go_simp
            refine hK _ ?_
            clear hK K
            refine wpQuiet_nil ?_
            refine rd_step rfl ?_
            refine wpQuiet_step (fun K hK => ?_)
            rw [if_pos (by rfl)]
            first | refine quiet_move _ rfl ?_ | refine quiet_assign _ rfl ?_
            go_simp
            refine hK _ ?_
            clear hK K
            refine wpQuiet_nil ?_
            refine rd_step rfl ?_
            refine wpQuiet_step (fun K hK => ?_)
            rw [if_pos (by rfl)]
            refine quiet_val (.int .i64 (2 * (Y : Int))) (fun W hW => by simp [execOp, go_sem, gY]) ?_
            go_simp
            refine hK _ ?_
            clear hK K
            refine wpQuiet_nil ?_
            refine rd_step rfl ?_
            refine wpQuiet_step (fun K hK => ?_)
            rw [if_pos (by rfl)]
            refine quiet_val (.pointer (some ⟨sz, 2, none⟩)) (fun W hW => by simp [execOp, go_sem]) ?_
            go_simp
            refine hK _ ?_
            clear hK K
            refine wpQuiet_nil ?_
            refine rd_step rfl ?_
            refine wpQuiet_step (fun K hK => ?_)
            rw [if_pos (by rfl)]
            refine quiet_val (.int .i64 ht) (fun W hW => by have h0 := (D.on hW).2.2.1; simp [execOp, go_sem, h0]) ?_
            go_simp
            refine hK _ ?_
            clear hK K
            refine wpQuiet_nil ?_
            refine rd_step rfl ?_
            refine wpQuiet_step (fun K hK => ?_)
            rw [if_pos (by rfl)]
            refine quiet_val (.int .i64 (ht - 1)) (fun W hW => by simp [execOp, go_sem, gh]) ?_
            go_simp
            refine hK _ ?_
            clear hK K
            refine wpQuiet_nil ?_
            refine rd_step rfl ?_
            refine wpQuiet_step (fun K hK => ?_)
            rw [if_pos (by rfl)]
            refine quiet_val (.int .i64 (2 * (Y : Int))) (fun W hW => by simp [execOp, go_sem, Builtin.min_, Builtin.min2, HM2.out]) ?_
            go_simp
            refine hK _ ?_
            clear hK K
            refine wpQuiet_nil ?_
            refine rd_step rfl ?_
            refine wpQuiet_step (fun K hK => ?_)
            rw [if_pos (by rfl)]
            refine quiet_iload _ _ rfl imgT (fun W hW => D.on hW) rfl ?_
            go_simp
            refine hK _ ?_
            clear hK K
            refine wpQuiet_nil ?_
            refine rd_step rfl ?_
            refine wpQuiet_step (fun K hK => ?_)
            rw [if_pos (by rfl)]
            first | refine quiet_move _ rfl ?_ | refine quiet_assign _ rfl ?_
            go_simp
            refine hK _ ?_
            clear hK K
            refine wpQuiet_nil ?_
            refine rd_step rfl ?_
            refine wpQuiet_step (fun K hK => ?_)
            rw [if_pos (by rfl)]
            first | refine quiet_move _ rfl ?_ | refine quiet_assign _ rfl ?_
            go_simp
            refine hK _ ?_
            clear hK K
            refine wpQuiet_nil ?_
            refine rd_step rfl ?_
            refine wpQuiet_step (fun K hK => ?_)
            rw [if_pos (by rfl)]
            refine quiet_val (.int .i64 (2 * (Y : Int))) (fun W hW => by simp [execOp, go_sem, gY]) ?_
            go_simp
            refine hK _ ?_
            clear hK K
            refine wpQuiet_nil ?_
            refine rd_step rfl ?_
            refine wpQuiet_step (fun K hK => ?_)
            rw [if_pos (by rfl)]
            refine quiet_val (.pointer (some ⟨sz, 2, none⟩)) (fun W hW => by simp [execOp, go_sem]) ?_
            go_simp
            refine hK _ ?_
            clear hK K
            refine wpQuiet_nil ?_
            refine rd_step rfl ?_
            refine wpQuiet_step (fun K hK => ?_)
            rw [if_pos (by rfl)]
            refine quiet_val (.int .i64 ht) (fun W hW => by have h0 := (D.on hW).2.2.1; simp [execOp, go_sem, h0]) ?_
            go_simp
            refine hK _ ?_
            clear hK K
            refine wpQuiet_nil ?_
            refine rd_step rfl ?_
            refine wpQuiet_step (fun K hK => ?_)
            rw [if_pos (by rfl)]
            refine quiet_val (.int .i64 (ht - 1)) (fun W hW => by simp [execOp, go_sem, gh]) ?_
            go_simp
            refine hK _ ?_
            clear hK K
            refine wpQuiet_nil ?_
            refine rd_step rfl ?_
            refine wpQuiet_step (fun K hK => ?_)
            rw [if_pos (by rfl)]
            refine quiet_val (.int .i64 (2 * (Y : Int))) (fun W hW => by simp [execOp, go_sem, Builtin.min_, Builtin.min2, HM2.out]) ?_
            go_simp
            refine hK _ ?_
            clear hK K
            refine wpQuiet_nil ?_
            exact ⟨0, 0, (by unfold raR; go_simp), F⟩
          · intro k hk
            match k, hk with
            | 0, _ =>
              intro a' W h
              obtain ⟨b8, b9, rfl, F⟩ := h
              refine ⟨fun h => absurd h (by decide), ?_⟩
              refine al3 ?_ ?_ ?_
              · refine ⟨_, rfl, ?_⟩
                unfold raR
                go_simp
                go_wp2_with (go_at_call 21; (refine (CG0.out _ (KX.on F)).mono ?_); rintro _ V ⟨rfl, B⟩)
                exact ⟨bon F B, b8, b9, (by unfold raR; go_simp), bon F B⟩
              · refine ⟨_, rfl, ?_⟩
                unfold raR
                go_simp
                go_wp2_with fail
                have bx := box_below W #[.int .i64 0, .int .i64 0, .int .i64 0, .int .i64 0] 44
                exact ⟨bon F bx, W.heap.size, b9, (by unfold raR; go_simp), bon F bx, VBox.made W 0 0 0 0 44, F.size⟩
              · refine ⟨_, rfl, ?_⟩
                unfold raR
                go_simp
                go_wp2_with fail
                have bx := box_below W #[.int .i64 0, .int .i64 0, .int .i64 0, .int .i64 0] 44
                exact ⟨bon F bx, b8, W.heap.size, (by unfold raR; go_simp), bon F bx, VBox.made W 0 0 0 0 44, F.size⟩
            | 1, _ =>
              intro a' W h
              obtain ⟨b8, b9, rfl, F⟩ := h
              refine ⟨fun h => absurd h (by decide), ?_⟩
              refine al3 ?_ ?_ ?_
              · refine ⟨_, rfl, ?_⟩
                unfold raR
                go_simp
                go_wp2_with (go_at_call 21; (refine (CG1.out _ (KX.on F)).mono ?_); rintro _ V ⟨rfl, B⟩)
                exact ⟨bon F B, b8, b9, (by unfold raR; go_simp), bon F B⟩
              · refine ⟨_, rfl, ?_⟩
                unfold raR
                go_simp
                go_wp2_with fail
                have bx := box_below W #[.int .i64 0, .int .i64 0, .int .i64 0, .int .i64 0] 44
                exact ⟨bon F bx, W.heap.size, b9, (by unfold raR; go_simp), bon F bx, VBox.made W 0 0 0 0 44, F.size⟩
              · refine ⟨_, rfl, ?_⟩
                unfold raR
                go_simp
                go_wp2_with fail
                have bx := box_below W #[.int .i64 0, .int .i64 0, .int .i64 0, .int .i64 0] 44
                exact ⟨bon F bx, b8, W.heap.size, (by unfold raR; go_simp), bon F bx, VBox.made W 0 0 0 0 44, F.size⟩
            | 2, _ =>
              intro a' W h
              obtain ⟨b8, b9, rfl, F, E8, G8⟩ := h
              refine ⟨fun h => absurd h (by decide), ?_⟩
              refine al2 ?_ ?_
              · refine ⟨_, rfl, ?_⟩
                unfold raR
                go_simp
                go_wp2_with (go_at_call 21; (refine (CG0.out _ (KX.on F)).mono ?_); rintro _ V ⟨rfl, B⟩)
                exact ⟨bon F B, b8, b9, (by unfold raR; go_simp), bon F B, E8.on B, G8⟩
              · refine ⟨_, rfl, ?_⟩
                unfold raR
                go_simp
                go_wp2_with fail
                have bx := box_below W #[.int .i64 0, .int .i64 0, .int .i64 0, .int .i64 0] 44
                exact ⟨bon F bx, b8, W.heap.size, (by unfold raR; go_simp), bon F bx, E8.on bx, VBox.made W 0 0 0 0 44, G8, F.size, (Nat.ne_of_lt E8.lt)⟩
            | 3, _ =>
              intro a' W h
              obtain ⟨b8, b9, rfl, F, E9, G9⟩ := h
              refine ⟨fun h => absurd h (by decide), ?_⟩
              refine al2 ?_ ?_
              · refine ⟨_, rfl, ?_⟩
                unfold raR
                go_simp
                go_wp2_with (go_at_call 21; (refine (CG0.out _ (KX.on F)).mono ?_); rintro _ V ⟨rfl, B⟩)
                exact ⟨bon F B, b8, b9, (by unfold raR; go_simp), bon F B, E9.on B, G9⟩
              · refine ⟨_, rfl, ?_⟩
                unfold raR
                go_simp
                go_wp2_with fail
                have bx := box_below W #[.int .i64 0, .int .i64 0, .int .i64 0, .int .i64 0] 44
                exact ⟨bon F bx, W.heap.size, b9, (by unfold raR; go_simp), bon F bx, VBox.made W 0 0 0 0 44, E9.on bx, F.size, G9, (Nat.ne_of_gt E9.lt)⟩
            | 4, _ =>
              intro a' W h
              obtain ⟨b8, b9, rfl, F⟩ := h
              refine ⟨fun h => absurd h (by decide), ?_⟩
              refine al2 ?_ ?_
              · refine ⟨_, rfl, ?_⟩
                unfold raR
                go_simp
                go_wp2_with fail
                have bx := box_below W #[.int .i64 0, .int .i64 0, .int .i64 0, .int .i64 0] 44
                exact ⟨bon F bx, W.heap.size, b9, (by unfold raR; go_simp), bon F bx, VBox.made W 0 0 0 0 44, F.size⟩
              · refine ⟨_, rfl, ?_⟩
                unfold raR
                go_simp
                go_wp2_with fail
                have bx := box_below W #[.int .i64 0, .int .i64 0, .int .i64 0, .int .i64 0] 44
                exact ⟨bon F bx, b8, W.heap.size, (by unfold raR; go_simp), bon F bx, VBox.made W 0 0 0 0 44, F.size⟩
            | 5, _ =>
              intro a' W h
              obtain ⟨b8, b9, rfl, F, E8, G8⟩ := h
              refine ⟨fun h => absurd h (by decide), ?_⟩
              refine al2 ?_ ?_
              · refine ⟨_, rfl, ?_⟩
                unfold raR
                go_simp
                go_wp2_with (go_at_call 21; (refine (CG1.out _ (KX.on F)).mono ?_); rintro _ V ⟨rfl, B⟩)
                exact ⟨bon F B, b8, b9, (by unfold raR; go_simp), bon F B, E8.on B, G8⟩
              · refine ⟨_, rfl, ?_⟩
                unfold raR
                go_simp
                go_wp2_with fail
                have bx := box_below W #[.int .i64 0, .int .i64 0, .int .i64 0, .int .i64 0] 44
                exact ⟨bon F bx, b8, W.heap.size, (by unfold raR; go_simp), bon F bx, E8.on bx, VBox.made W 0 0 0 0 44, G8, F.size, (Nat.ne_of_lt E8.lt)⟩
            | 6, _ =>
              intro a' W h
              obtain ⟨b8, b9, rfl, F, E9, G9⟩ := h
              refine ⟨fun h => absurd h (by decide), ?_⟩
              refine al2 ?_ ?_
              · refine ⟨_, rfl, ?_⟩
                unfold raR
                go_simp
                go_wp2_with (go_at_call 21; (refine (CG1.out _ (KX.on F)).mono ?_); rintro _ V ⟨rfl, B⟩)
                exact ⟨bon F B, b8, b9, (by unfold raR; go_simp), bon F B, E9.on B, G9⟩
              · refine ⟨_, rfl, ?_⟩
                unfold raR
                go_simp
                go_wp2_with fail
                have bx := box_below W #[.int .i64 0, .int .i64 0, .int .i64 0, .int .i64 0] 44
                exact ⟨bon F bx, W.heap.size, b9, (by unfold raR; go_simp), bon F bx, VBox.made W 0 0 0 0 44, E9.on bx, F.size, G9, (Nat.ne_of_gt E9.lt)⟩
            | 7, _ =>
              intro a' W h
              obtain ⟨b8, b9, rfl, F, E8, E9, G8, G9, N8_9⟩ := h
              refine ⟨fun h => absurd h (by decide), ?_⟩
              refine al1 ?_
              · refine ⟨_, rfl, ?_⟩
                unfold raR
                go_simp
                go_wp2_with (go_at_call 21; (refine (CG0.out _ (KX.on F)).mono ?_); rintro _ V ⟨rfl, B⟩)
                exact ⟨bon F B, b8, b9, (by unfold raR; go_simp), bon F B, E8.on B, E9.on B, G8, G9, N8_9⟩
            | 8, _ =>
              intro a' W h
              obtain ⟨b8, b9, rfl, F, E8, G8⟩ := h
              refine ⟨fun h => absurd h (by decide), ?_⟩
              refine al1 ?_
              · refine ⟨_, rfl, ?_⟩
                unfold raR
                go_simp
                go_wp2_with fail
                have bx := box_below W #[.int .i64 0, .int .i64 0, .int .i64 0, .int .i64 0] 44
                exact ⟨bon F bx, b8, W.heap.size, (by unfold raR; go_simp), bon F bx, E8.on bx, VBox.made W 0 0 0 0 44, G8, F.size, (Nat.ne_of_lt E8.lt)⟩
            | 9, _ =>
              intro a' W h
              obtain ⟨b8, b9, rfl, F, E9, G9⟩ := h
              refine ⟨fun h => absurd h (by decide), ?_⟩
              refine al1 ?_
              · refine ⟨_, rfl, ?_⟩
                unfold raR
                go_simp
                go_wp2_with fail
                have bx := box_below W #[.int .i64 0, .int .i64 0, .int .i64 0, .int .i64 0] 44
                exact ⟨bon F bx, W.heap.size, b9, (by unfold raR; go_simp), bon F bx, VBox.made W 0 0 0 0 44, E9.on bx, F.size, G9, (Nat.ne_of_gt E9.lt)⟩
            | 10, _ =>
              intro a' W h
              obtain ⟨b8, b9, rfl, F, E8, E9, G8, G9, N8_9⟩ := h
              refine ⟨fun h => absurd h (by decide), ?_⟩
              refine al1 ?_
              · refine ⟨_, rfl, ?_⟩
                unfold raR
                go_simp
                go_wp2_with (go_at_call 21; (refine (CG1.out _ (KX.on F)).mono ?_); rintro _ V ⟨rfl, B⟩)
                exact ⟨bon F B, b8, b9, (by unfold raR; go_simp), bon F B, E8.on B, E9.on B, G8, G9, N8_9⟩
            | 11, _ =>
              intro a' W h
              obtain ⟨b8, b9, rfl, F, E8, E9, G8, G9, N8_9⟩ := h
              refine ⟨fun h => absurd h (by decide), ?_⟩
              refine al1 ?_
              · refine ⟨_, rfl, ?_⟩
                unfold raR
                go_simp
                go_wp2_with (refine wpList_vset rfl _ _ _ rfl _ _ _ _ rfl rfl E8 (by kernel_rfl) ?_; intro V B E8' hv _)
                exact ⟨F.trans (B.mono G8), b8, b9, (by unfold raR; go_simp), F.trans (B.mono G8), E8', hv b9 _ _ _ _ (Ne.symm N8_9) E9, G8, G9, N8_9⟩
            | 12, _ =>
              intro a' W h
              obtain ⟨b8, b9, rfl, F, E8, E9, G8, G9, N8_9⟩ := h
              refine ⟨fun h => absurd h (by decide), ?_⟩
              refine al1 ?_
              · refine ⟨_, rfl, ?_⟩
                unfold raR
                go_simp
                go_wp2_with (refine wpList_vset rfl _ _ _ rfl _ _ _ _ rfl rfl E9 (by kernel_rfl) ?_; intro V B E9' hv _)
                exact ⟨F.trans (B.mono G9), b8, b9, (by unfold raR; go_simp), F.trans (B.mono G9), hv b8 _ _ _ _ N8_9 E8, E9', G8, G9, N8_9⟩
            | 13, _ =>
              intro a' W h
              obtain ⟨b8, b9, rfl, F, E8, E9, G8, G9, N8_9⟩ := h
              exact ⟨fun _ => rfl, fun e he => by cases he⟩
            | k + 14, hk => exact absurd hk (by show ¬ k + 14 < 14; omega)
          rintro _ U1 ⟨b8, b9, rfl, F, E8, E9, G8, G9, N8_9⟩
          replace D := D.on F
          replace E2 := E2.on F
          replace EO := EO.on F
          have OWN1 := Lib.hid (OWN.out.on F)
          clear OWN
          have OWN := OWN1
          clear OWN1
          replace KX := KX.on F
          replace BB := bon BB F
          clear F G8 G9 N8_9 CG0 CG1
          unfold raR
          go_simp
          go_wp2_with fail
          refine wp_region_dag (rbSt U1 sz f wd ht A n c X Y r s va vb vc vd) (fun U => Below U1.heap.size U1 U) [0, 1, 2, 3, 4, 5, 6, 7, 9, 10, 11] rbDag 13 (by kernel_rfl) (by kernel_rfl) (fun U hB => hB) ?_ ?_ ?_
          · intro V0 F
            refine rd_step rfl ?_
            refine wpQuiet_step (fun K hK => ?_)
            rw [if_pos (by rfl)]
            refine quiet_iload _ _ rfl imgT (fun W hW => D.on hW) rfl ?_
            go_simp
            refine hK _ ?_
            clear hK K
            refine wpQuiet_nil ?_
            refine rd_step rfl ?_
            refine wpQuiet_step (fun K hK => ?_)
            rw [if_pos (by rfl)]
            first | refine quiet_move _ rfl ?_ | refine quiet_assign _ rfl ?_
            go_simp
            refine hK _ ?_
            clear hK K
            refine wpQuiet_nil ?_
            refine rd_step rfl ?_
            refine wpQuiet_step (fun K hK => ?_)
            rw [if_pos (by rfl)]
            refine quiet_val (.int .i64 (2 * (X : Int))) (fun W hW => by simp [execOp, go_sem, gX]) ?_
            go_simp
            refine hK _ ?_
            clear hK K
            refine wpQuiet_nil ?_
            refine rd_step rfl ?_
            refine wpQuiet_step (fun K hK => ?_)
            rw [if_pos (by rfl)]
            refine quiet_val (.pointer (some ⟨sz, 1, none⟩)) (fun W hW => by simp [execOp, go_sem]) ?_
            go_simp
            refine hK _ ?_
            clear hK K
            refine wpQuiet_nil ?_
            refine rd_step rfl ?_
            refine wpQuiet_step (fun K hK => ?_)
            rw [if_pos (by rfl)]
            refine quiet_val (.int .i64 wd) (fun W hW => by have h0 := (D.on hW).2.1; simp [execOp, go_sem, h0]) ?_
            go_simp
            refine hK _ ?_
            clear hK K
            refine wpQuiet_nil ?_
            refine rd_step rfl ?_
            refine wpQuiet_step (fun K hK => ?_)
            rw [if_pos (by rfl)]
            refine quiet_val (.int .i64 (wd - 1)) (fun W hW => by simp [execOp, go_sem, gw]) ?_
            go_simp
            refine hK _ ?_
            clear hK K
            refine wpQuiet_nil ?_
            refine rd_step rfl ?_
            refine wpQuiet_step (fun K hK => ?_)
            rw [if_pos (by rfl)]
            refine quiet_val (.int .i64 (2 * (X : Int))) (fun W hW => by simp [execOp, go_sem, Builtin.min_, Builtin.min2, HM1.out]) ?_
            go_simp
            refine hK _ ?_
            clear hK K
            refine wpQuiet_nil ?_
            refine rd_step rfl ?_
            refine wpQuiet_step (fun K hK => ?_)
            rw [if_pos (by rfl)]
            first | refine quiet_move _ rfl ?_ | refine quiet_assign _ rfl ?_
            go_simp
            refine hK _ ?_
            clear hK K
            refine wpQuiet_nil ?_
            refine rd_step rfl ?_
            refine wpQuiet_step (fun K hK => ?_)
            rw [if_pos (by rfl)]
            refine quiet_iload _ _ rfl imgT (fun W hW => D.on hW) rfl ?_
            go_simp
            refine hK _ ?_
            clear hK K
            refine wpQuiet_nil ?_
            refine rd_step rfl ?_
            refine wpQuiet_step (fun K hK => ?_)
            rw [if_pos (by rfl)]
            first | refine quiet_move _ rfl ?_ | refine quiet_assign _ rfl ?_
            go_simp
            refine hK _ ?_
            clear hK K
            refine wpQuiet_nil ?_
            refine rd_step rfl ?_
            refine wpQuiet_step (fun K hK => ?_)
            rw [if_pos (by rfl)]
            first | refine quiet_move _ rfl ?_ | refine quiet_assign _ rfl ?_
            go_simp
            refine hK _ ?_
            clear hK K
            refine wpQuiet_nil ?_
            exact ⟨0, 0, (by unfold rbR; go_simp), F⟩
          · intro k hk
            match k, hk with
            | 0, _ =>
              intro a' W h
              obtain ⟨b10, b11, rfl, F⟩ := h
              refine ⟨fun h => absurd h (by decide), ?_⟩
              refine al3 ?_ ?_ ?_
              · refine ⟨_, rfl, ?_⟩
                unfold rbR
                go_simp
                go_wp2_with (go_at_call 21; (refine (CG2.out _ (KX.on F)).mono ?_); rintro _ V ⟨rfl, B⟩)
                exact ⟨bon F B, b10, b11, (by unfold rbR; go_simp), bon F B⟩
              · refine ⟨_, rfl, ?_⟩
                unfold rbR
                go_simp
                go_wp2_with fail
                have bx := box_below W #[.int .i64 0, .int .i64 0, .int .i64 0, .int .i64 0] 44
                exact ⟨bon F bx, W.heap.size, b11, (by unfold rbR; go_simp), bon F bx, VBox.made W 0 0 0 0 44, F.size⟩
              · refine ⟨_, rfl, ?_⟩
                unfold rbR
                go_simp
                go_wp2_with fail
                have bx := box_below W #[.int .i64 0, .int .i64 0, .int .i64 0, .int .i64 0] 44
                exact ⟨bon F bx, b10, W.heap.size, (by unfold rbR; go_simp), bon F bx, VBox.made W 0 0 0 0 44, F.size⟩
            | 1, _ =>
              intro a' W h
              obtain ⟨b10, b11, rfl, F⟩ := h
              refine ⟨fun h => absurd h (by decide), ?_⟩
              refine al3 ?_ ?_ ?_
              · refine ⟨_, rfl, ?_⟩
                unfold rbR
                go_simp
                go_wp2_with (go_at_call 21; (refine (CG3.out _ (KX.on F)).mono ?_); rintro _ V ⟨rfl, B⟩)
                exact ⟨bon F B, b10, b11, (by unfold rbR; go_simp), bon F B⟩
              · refine ⟨_, rfl, ?_⟩
                unfold rbR
                go_simp
                go_wp2_with fail
                have bx := box_below W #[.int .i64 0, .int .i64 0, .int .i64 0, .int .i64 0] 44
                exact ⟨bon F bx, W.heap.size, b11, (by unfold rbR; go_simp), bon F bx, VBox.made W 0 0 0 0 44, F.size⟩
              · refine ⟨_, rfl, ?_⟩
                unfold rbR
                go_simp
                go_wp2_with fail
                have bx := box_below W #[.int .i64 0, .int .i64 0, .int .i64 0, .int .i64 0] 44
                exact ⟨bon F bx, b10, W.heap.size, (by unfold rbR; go_simp), bon F bx, VBox.made W 0 0 0 0 44, F.size⟩
            | 2, _ =>
              intro a' W h
              obtain ⟨b10, b11, rfl, F, E10, G10⟩ := h
              refine ⟨fun h => absurd h (by decide), ?_⟩
              refine al2 ?_ ?_
              · refine ⟨_, rfl, ?_⟩
                unfold rbR
                go_simp
                go_wp2_with (go_at_call 21; (refine (CG2.out _ (KX.on F)).mono ?_); rintro _ V ⟨rfl, B⟩)
                exact ⟨bon F B, b10, b11, (by unfold rbR; go_simp), bon F B, E10.on B, G10⟩
              · refine ⟨_, rfl, ?_⟩
                unfold rbR
                go_simp
                go_wp2_with fail
                have bx := box_below W #[.int .i64 0, .int .i64 0, .int .i64 0, .int .i64 0] 44
                exact ⟨bon F bx, b10, W.heap.size, (by unfold rbR; go_simp), bon F bx, E10.on bx, VBox.made W 0 0 0 0 44, G10, F.size, (Nat.ne_of_lt E10.lt)⟩
            | 3, _ =>
              intro a' W h
              obtain ⟨b10, b11, rfl, F, E11, G11⟩ := h
              refine ⟨fun h => absurd h (by decide), ?_⟩
              refine al2 ?_ ?_
              · refine ⟨_, rfl, ?_⟩
                unfold rbR
                go_simp
                go_wp2_with (go_at_call 21; (refine (CG2.out _ (KX.on F)).mono ?_); rintro _ V ⟨rfl, B⟩)
                exact ⟨bon F B, b10, b11, (by unfold rbR; go_simp), bon F B, E11.on B, G11⟩
              · refine ⟨_, rfl, ?_⟩
                unfold rbR
                go_simp
                go_wp2_with fail
                have bx := box_below W #[.int .i64 0, .int .i64 0, .int .i64 0, .int .i64 0] 44
                exact ⟨bon F bx, W.heap.size, b11, (by unfold rbR; go_simp), bon F bx, VBox.made W 0 0 0 0 44, E11.on bx, F.size, G11, (Nat.ne_of_gt E11.lt)⟩
            | 4, _ =>
              intro a' W h
              obtain ⟨b10, b11, rfl, F⟩ := h
              refine ⟨fun h => absurd h (by decide), ?_⟩
              refine al2 ?_ ?_
              · refine ⟨_, rfl, ?_⟩
                unfold rbR
                go_simp
                go_wp2_with fail
                have bx := box_below W #[.int .i64 0, .int .i64 0, .int .i64 0, .int .i64 0] 44
                exact ⟨bon F bx, W.heap.size, b11, (by unfold rbR; go_simp), bon F bx, VBox.made W 0 0 0 0 44, F.size⟩
              · refine ⟨_, rfl, ?_⟩
                unfold rbR
                go_simp
                go_wp2_with fail
                have bx := box_below W #[.int .i64 0, .int .i64 0, .int .i64 0, .int .i64 0] 44
                exact ⟨bon F bx, b10, W.heap.size, (by unfold rbR; go_simp), bon F bx, VBox.made W 0 0 0 0 44, F.size⟩
            | 5, _ =>
              intro a' W h
              obtain ⟨b10, b11, rfl, F, E10, G10⟩ := h
              refine ⟨fun h => absurd h (by decide), ?_⟩
              refine al2 ?_ ?_
              · refine ⟨_, rfl, ?_⟩
                unfold rbR
                go_simp
                go_wp2_with (go_at_call 21; (refine (CG3.out _ (KX.on F)).mono ?_); rintro _ V ⟨rfl, B⟩)
                exact ⟨bon F B, b10, b11, (by unfold rbR; go_simp), bon F B, E10.on B, G10⟩
              · refine ⟨_, rfl, ?_⟩
                unfold rbR
                go_simp
                go_wp2_with fail
                have bx := box_below W #[.int .i64 0, .int .i64 0, .int .i64 0, .int .i64 0] 44
                exact ⟨bon F bx, b10, W.heap.size, (by unfold rbR; go_simp), bon F bx, E10.on bx, VBox.made W 0 0 0 0 44, G10, F.size, (Nat.ne_of_lt E10.lt)⟩
            | 6, _ =>
              intro a' W h
              obtain ⟨b10, b11, rfl, F, E11, G11⟩ := h
              refine ⟨fun h => absurd h (by decide), ?_⟩
              refine al2 ?_ ?_
              · refine ⟨_, rfl, ?_⟩
                unfold rbR
                go_simp
                go_wp2_with (go_at_call 21; (refine (CG3.out _ (KX.on F)).mono ?_); rintro _ V ⟨rfl, B⟩)
                exact ⟨bon F B, b10, b11, (by unfold rbR; go_simp), bon F B, E11.on B, G11⟩
              · refine ⟨_, rfl, ?_⟩
                unfold rbR
                go_simp
                go_wp2_with fail
                have bx := box_below W #[.int .i64 0, .int .i64 0, .int .i64 0, .int .i64 0] 44
                exact ⟨bon F bx, W.heap.size, b11, (by unfold rbR; go_simp), bon F bx, VBox.made W 0 0 0 0 44, E11.on bx, F.size, G11, (Nat.ne_of_gt E11.lt)⟩
            | 7, _ =>
              intro a' W h
              obtain ⟨b10, b11, rfl, F, E10, E11, G10, G11, N10_11⟩ := h
              refine ⟨fun h => absurd h (by decide), ?_⟩
              refine al1 ?_
              · refine ⟨_, rfl, ?_⟩
                unfold rbR
                go_simp
                go_wp2_with (go_at_call 21; (refine (CG2.out _ (KX.on F)).mono ?_); rintro _ V ⟨rfl, B⟩)
                exact ⟨bon F B, b10, b11, (by unfold rbR; go_simp), bon F B, E10.on B, E11.on B, G10, G11, N10_11⟩
            | 8, _ =>
              intro a' W h
              obtain ⟨b10, b11, rfl, F, E10, G10⟩ := h
              refine ⟨fun h => absurd h (by decide), ?_⟩
              refine al1 ?_
              · refine ⟨_, rfl, ?_⟩
                unfold rbR
                go_simp
                go_wp2_with fail
                have bx := box_below W #[.int .i64 0, .int .i64 0, .int .i64 0, .int .i64 0] 44
                exact ⟨bon F bx, b10, W.heap.size, (by unfold rbR; go_simp), bon F bx, E10.on bx, VBox.made W 0 0 0 0 44, G10, F.size, (Nat.ne_of_lt E10.lt)⟩
            | 9, _ =>
              intro a' W h
              obtain ⟨b10, b11, rfl, F, E11, G11⟩ := h
              refine ⟨fun h => absurd h (by decide), ?_⟩
              refine al1 ?_
              · refine ⟨_, rfl, ?_⟩
                unfold rbR
                go_simp
                go_wp2_with fail
                have bx := box_below W #[.int .i64 0, .int .i64 0, .int .i64 0, .int .i64 0] 44
                exact ⟨bon F bx, W.heap.size, b11, (by unfold rbR; go_simp), bon F bx, VBox.made W 0 0 0 0 44, E11.on bx, F.size, G11, (Nat.ne_of_gt E11.lt)⟩
            | 10, _ =>
              intro a' W h
              obtain ⟨b10, b11, rfl, F, E10, E11, G10, G11, N10_11⟩ := h
              refine ⟨fun h => absurd h (by decide), ?_⟩
              refine al1 ?_
              · refine ⟨_, rfl, ?_⟩
                unfold rbR
                go_simp
                go_wp2_with (go_at_call 21; (refine (CG3.out _ (KX.on F)).mono ?_); rintro _ V ⟨rfl, B⟩)
                exact ⟨bon F B, b10, b11, (by unfold rbR; go_simp), bon F B, E10.on B, E11.on B, G10, G11, N10_11⟩
            | 11, _ =>
              intro a' W h
              obtain ⟨b10, b11, rfl, F, E10, E11, G10, G11, N10_11⟩ := h
              refine ⟨fun h => absurd h (by decide), ?_⟩
              refine al1 ?_
              · refine ⟨_, rfl, ?_⟩
                unfold rbR
                go_simp
                go_wp2_with (refine wpList_vset rfl _ _ _ rfl _ _ _ _ rfl rfl E10 (by kernel_rfl) ?_; intro V B E10' hv _)
                exact ⟨F.trans (B.mono G10), b10, b11, (by unfold rbR; go_simp), F.trans (B.mono G10), E10', hv b11 _ _ _ _ (Ne.symm N10_11) E11, G10, G11, N10_11⟩
            | 12, _ =>
              intro a' W h
              obtain ⟨b10, b11, rfl, F, E10, E11, G10, G11, N10_11⟩ := h
              refine ⟨fun h => absurd h (by decide), ?_⟩
              refine al1 ?_
              · refine ⟨_, rfl, ?_⟩
                unfold rbR
                go_simp
                go_wp2_with (refine wpList_vset rfl _ _ _ rfl _ _ _ _ rfl rfl E11 (by kernel_rfl) ?_; intro V B E11' hv _)
                exact ⟨F.trans (B.mono G11), b10, b11, (by unfold rbR; go_simp), F.trans (B.mono G11), hv b10 _ _ _ _ N10_11 E10, E11', G10, G11, N10_11⟩
            | 13, _ =>
              intro a' W h
              obtain ⟨b10, b11, rfl, F, E10, E11, G10, G11, N10_11⟩ := h
              exact ⟨fun _ => rfl, fun e he => by cases he⟩
            | k + 14, hk => exact absurd hk (by show ¬ k + 14 < 14; omega)
          rintro _ U2 ⟨b10, b11, rfl, F, E10, E11, G10, G11, N10_11⟩
          replace D := D.on F
          replace E2 := E2.on F
          replace EO := EO.on F
          have OWN1 := Lib.hid (OWN.out.on F)
          clear OWN
          have OWN := OWN1
          clear OWN1
          replace KX := KX.on F
          replace E8 := E8.on F
          replace E9 := E9.on F
          replace BB := bon BB F
          clear F G10 G11 N10_11 CG2 CG3 HM1 HM2
          unfold rbR
          go_simp
          go_wp2_with fail
          refine wp_region_dag (rcSt U2 b8 b9 b10 b11 va vb vc vd av) (fun U => Below U2.heap.size U2 U) [0, 1, 2, 3, 4, 5, 6, 7, 9, 10, 11, 12, 13, 14, 15, 16, 18, 19, 20, 21, 22, 23, 24, 25, 27, 28, 29, 30, 31, 32, 33, 34] rcDag 12 (by kernel_rfl) (by kernel_rfl) (fun U hB => hB) ?_ ?_ ?_
          · intro V0 F
            refine rd_step rfl ?_
            refine wpQuiet_step (fun K hK => ?_)
            rw [if_pos (by rfl)]
            refine quiet_val (.pointer (some ⟨b8, 0, none⟩)) (fun W hW => by simp [execOp, go_sem]) ?_
            go_simp
            refine hK _ ?_
            clear hK K
            refine wpQuiet_nil ?_
            refine rd_step rfl ?_
            refine wpQuiet_step (fun K hK => ?_)
            rw [if_pos (by rfl)]
            refine quiet_val (.int .i64 (va 0)) (fun W hW => by have h0 := (E8.on hW).1.1; simp [execOp, go_sem, h0]) ?_
            go_simp
            refine hK _ ?_
            clear hK K
            refine wpQuiet_nil ?_
            refine rd_step rfl ?_
            refine wpQuiet_step (fun K hK => ?_)
            rw [if_pos (by rfl)]
            refine quiet_val (.pointer (some ⟨b9, 0, none⟩)) (fun W hW => by simp [execOp, go_sem]) ?_
            go_simp
            refine hK _ ?_
            clear hK K
            refine wpQuiet_nil ?_
            refine rd_step rfl ?_
            refine wpQuiet_step (fun K hK => ?_)
            rw [if_pos (by rfl)]
            refine quiet_val (.int .i64 (vb 0)) (fun W hW => by have h0 := (E9.on hW).1.1; simp [execOp, go_sem, h0]) ?_
            go_simp
            refine hK _ ?_
            clear hK K
            refine wpQuiet_nil ?_
            refine rd_step rfl ?_
            refine wpQuiet_step (fun K hK => ?_)
            rw [if_pos (by rfl)]
            refine quiet_val (.pointer (some ⟨b10, 0, none⟩)) (fun W hW => by simp [execOp, go_sem]) ?_
            go_simp
            refine hK _ ?_
            clear hK K
            refine wpQuiet_nil ?_
            refine rd_step rfl ?_
            refine wpQuiet_step (fun K hK => ?_)
            rw [if_pos (by rfl)]
            refine quiet_val (.int .i64 (vc 0)) (fun W hW => by have h0 := (E10.on hW).1.1; simp [execOp, go_sem, h0]) ?_
            go_simp
            refine hK _ ?_
            clear hK K
            refine wpQuiet_nil ?_
            refine rd_step rfl ?_
            refine wpQuiet_step (fun K hK => ?_)
            rw [if_pos (by rfl)]
            refine quiet_val (.pointer (some ⟨b11, 0, none⟩)) (fun W hW => by simp [execOp, go_sem]) ?_
            go_simp
            refine hK _ ?_
            clear hK K
            refine wpQuiet_nil ?_
            refine rd_step rfl ?_
            refine wpQuiet_step (fun K hK => ?_)
            rw [if_pos (by rfl)]
            refine quiet_val (.int .i64 (vd 0)) (fun W hW => by have h0 := (E11.on hW).1.1; simp [execOp, go_sem, h0]) ?_
            go_simp
            refine hK _ ?_
            clear hK K
            refine wpQuiet_nil ?_
            refine rd_step rfl ?_
            refine wpQuiet_step (fun K hK => ?_)
            rw [if_pos (by rfl)]
            refine quiet_val (.pointer (some ⟨b8, 1, none⟩)) (fun W hW => by simp [execOp, go_sem]) ?_
            go_simp
            refine hK _ ?_
            clear hK K
            refine wpQuiet_nil ?_
            refine rd_step rfl ?_
            refine wpQuiet_step (fun K hK => ?_)
            rw [if_pos (by rfl)]
            refine quiet_val (.int .i64 (va 1)) (fun W hW => by have h0 := (E8.on hW).1.2.1; simp [execOp, go_sem, h0]) ?_
            go_simp
            refine hK _ ?_
            clear hK K
            refine wpQuiet_nil ?_
            refine rd_step rfl ?_
            refine wpQuiet_step (fun K hK => ?_)
            rw [if_pos (by rfl)]
            refine quiet_val (.pointer (some ⟨b9, 1, none⟩)) (fun W hW => by simp [execOp, go_sem]) ?_
            go_simp
            refine hK _ ?_
            clear hK K
            refine wpQuiet_nil ?_
            refine rd_step rfl ?_
            refine wpQuiet_step (fun K hK => ?_)
            rw [if_pos (by rfl)]
            refine quiet_val (.int .i64 (vb 1)) (fun W hW => by have h0 := (E9.on hW).1.2.1; simp [execOp, go_sem, h0]) ?_
            go_simp
            refine hK _ ?_
            clear hK K
            refine wpQuiet_nil ?_
            refine rd_step rfl ?_
            refine wpQuiet_step (fun K hK => ?_)
            rw [if_pos (by rfl)]
            refine quiet_val (.pointer (some ⟨b10, 1, none⟩)) (fun W hW => by simp [execOp, go_sem]) ?_
            go_simp
            refine hK _ ?_
            clear hK K
            refine wpQuiet_nil ?_
            refine rd_step rfl ?_
            refine wpQuiet_step (fun K hK => ?_)
            rw [if_pos (by rfl)]
            refine quiet_val (.int .i64 (vc 1)) (fun W hW => by have h0 := (E10.on hW).1.2.1; simp [execOp, go_sem, h0]) ?_
            go_simp
            refine hK _ ?_
            clear hK K
            refine wpQuiet_nil ?_
            refine rd_step rfl ?_
            refine wpQuiet_step (fun K hK => ?_)
            rw [if_pos (by rfl)]
            refine quiet_val (.pointer (some ⟨b11, 1, none⟩)) (fun W hW => by simp [execOp, go_sem]) ?_
            go_simp
            refine hK _ ?_
            clear hK K
            refine wpQuiet_nil ?_
            refine rd_step rfl ?_
            refine wpQuiet_step (fun K hK => ?_)
            rw [if_pos (by rfl)]
            refine quiet_val (.int .i64 (vd 1)) (fun W hW => by have h0 := (E11.on hW).1.2.1; simp [execOp, go_sem, h0]) ?_
            go_simp
            refine hK _ ?_
            clear hK K
            refine wpQuiet_nil ?_
            refine rd_step rfl ?_
            refine wpQuiet_step (fun K hK => ?_)
            rw [if_pos (by rfl)]
            refine quiet_val (.pointer (some ⟨b8, 2, none⟩)) (fun W hW => by simp [execOp, go_sem]) ?_
            go_simp
            refine hK _ ?_
            clear hK K
            refine wpQuiet_nil ?_
            refine rd_step rfl ?_
            refine wpQuiet_step (fun K hK => ?_)
            rw [if_pos (by rfl)]
            refine quiet_val (.int .i64 (va 2)) (fun W hW => by have h0 := (E8.on hW).1.2.2.1; simp [execOp, go_sem, h0]) ?_
            go_simp
            refine hK _ ?_
            clear hK K
            refine wpQuiet_nil ?_
            refine rd_step rfl ?_
            refine wpQuiet_step (fun K hK => ?_)
            rw [if_pos (by rfl)]
            refine quiet_val (.pointer (some ⟨b9, 2, none⟩)) (fun W hW => by simp [execOp, go_sem]) ?_
            go_simp
            refine hK _ ?_
            clear hK K
            refine wpQuiet_nil ?_
            refine rd_step rfl ?_
            refine wpQuiet_step (fun K hK => ?_)
            rw [if_pos (by rfl)]
            refine quiet_val (.int .i64 (vb 2)) (fun W hW => by have h0 := (E9.on hW).1.2.2.1; simp [execOp, go_sem, h0]) ?_
            go_simp
            refine hK _ ?_
            clear hK K
            refine wpQuiet_nil ?_
            refine rd_step rfl ?_
            refine wpQuiet_step (fun K hK => ?_)
            rw [if_pos (by rfl)]
            refine quiet_val (.pointer (some ⟨b10, 2, none⟩)) (fun W hW => by simp [execOp, go_sem]) ?_
            go_simp
            refine hK _ ?_
            clear hK K
            refine wpQuiet_nil ?_
            refine rd_step rfl ?_
            refine wpQuiet_step (fun K hK => ?_)
            rw [if_pos (by rfl)]
            refine quiet_val (.int .i64 (vc 2)) (fun W hW => by have h0 := (E10.on hW).1.2.2.1; simp [execOp, go_sem, h0]) ?_
            go_simp
            refine hK _ ?_
            clear hK K
            refine wpQuiet_nil ?_
            refine rd_step rfl ?_
            refine wpQuiet_step (fun K hK => ?_)
            rw [if_pos (by rfl)]
            refine quiet_val (.pointer (some ⟨b11, 2, none⟩)) (fun W hW => by simp [execOp, go_sem]) ?_
            go_simp
            refine hK _ ?_
            clear hK K
            refine wpQuiet_nil ?_
            refine rd_step rfl ?_
            refine wpQuiet_step (fun K hK => ?_)
            rw [if_pos (by rfl)]
            refine quiet_val (.int .i64 (vd 2)) (fun W hW => by have h0 := (E11.on hW).1.2.2.1; simp [execOp, go_sem, h0]) ?_
            go_simp
            refine hK _ ?_
            clear hK K
            refine wpQuiet_nil ?_
            refine rd_step rfl ?_
            refine wpQuiet_step (fun K hK => ?_)
            rw [if_pos (by rfl)]
            refine quiet_val (.pointer (some ⟨b8, 3, none⟩)) (fun W hW => by simp [execOp, go_sem]) ?_
            go_simp
            refine hK _ ?_
            clear hK K
            refine wpQuiet_nil ?_
            refine rd_step rfl ?_
            refine wpQuiet_step (fun K hK => ?_)
            rw [if_pos (by rfl)]
            refine quiet_val (.int .i64 (va 3)) (fun W hW => by have h0 := (E8.on hW).1.2.2.2; simp [execOp, go_sem, h0]) ?_
            go_simp
            refine hK _ ?_
            clear hK K
            refine wpQuiet_nil ?_
            refine rd_step rfl ?_
            refine wpQuiet_step (fun K hK => ?_)
            rw [if_pos (by rfl)]
            refine quiet_val (.pointer (some ⟨b9, 3, none⟩)) (fun W hW => by simp [execOp, go_sem]) ?_
            go_simp
            refine hK _ ?_
            clear hK K
            refine wpQuiet_nil ?_
            refine rd_step rfl ?_
            refine wpQuiet_step (fun K hK => ?_)
            rw [if_pos (by rfl)]
            refine quiet_val (.int .i64 (vb 3)) (fun W hW => by have h0 := (E9.on hW).1.2.2.2; simp [execOp, go_sem, h0]) ?_
            go_simp
            refine hK _ ?_
            clear hK K
            refine wpQuiet_nil ?_
            refine rd_step rfl ?_
            refine wpQuiet_step (fun K hK => ?_)
            rw [if_pos (by rfl)]
            refine quiet_val (.pointer (some ⟨b10, 3, none⟩)) (fun W hW => by simp [execOp, go_sem]) ?_
            go_simp
            refine hK _ ?_
            clear hK K
            refine wpQuiet_nil ?_
            refine rd_step rfl ?_
            refine wpQuiet_step (fun K hK => ?_)
            rw [if_pos (by rfl)]
            refine quiet_val (.int .i64 (vc 3)) (fun W hW => by have h0 := (E10.on hW).1.2.2.2; simp [execOp, go_sem, h0]) ?_
            go_simp
            refine hK _ ?_
            clear hK K
            refine wpQuiet_nil ?_
            refine rd_step rfl ?_
            refine wpQuiet_step (fun K hK => ?_)
            rw [if_pos (by rfl)]
            refine quiet_val (.pointer (some ⟨b11, 3, none⟩)) (fun W hW => by simp [execOp, go_sem]) ?_
            go_simp
            refine hK _ ?_
            clear hK K
            refine wpQuiet_nil ?_
            refine rd_step rfl ?_
            refine wpQuiet_step (fun K hK => ?_)
            rw [if_pos (by rfl)]
            refine quiet_val (.int .i64 (vd 3)) (fun W hW => by have h0 := (E11.on hW).1.2.2.2; simp [execOp, go_sem, h0]) ?_
            go_simp
            refine hK _ ?_
            clear hK K
            refine wpQuiet_nil ?_
            exact ⟨0, (by unfold rcR; go_simp), F⟩
          · intro k hk
            match k, hk with
            | 0, _ =>
              intro a' W h
              obtain ⟨b12, rfl, F⟩ := h
              refine ⟨fun h => absurd h (by decide), ?_⟩
              refine al2 ?_ ?_
              · refine ⟨_, rfl, ?_⟩
                unfold rcR
                go_simp
                go_wp2_with (go_at_call 40; (refine (CA0.out _).mono ?_); rintro _ V ⟨rfl, B⟩)
                exact ⟨bon F B, b12, (by unfold rcR; go_simp), bon F B⟩
              · refine ⟨_, rfl, ?_⟩
                unfold rcR
                go_simp
                go_wp2_with fail
                have bx := box_below W #[.int .i64 0, .int .i64 0, .int .i64 0, .int .i64 0] 44
                exact ⟨bon F bx, W.heap.size, (by unfold rcR; go_simp), bon F bx, VBox.made W 0 0 0 0 44, F.size⟩
            | 1, _ =>
              intro a' W h
              obtain ⟨b12, rfl, F⟩ := h
              refine ⟨fun h => absurd h (by decide), ?_⟩
              refine al2 ?_ ?_
              · refine ⟨_, rfl, ?_⟩
                unfold rcR
                go_simp
                go_wp2_with (go_at_call 40; (refine (CA1.out _).mono ?_); rintro _ V ⟨rfl, B⟩)
                exact ⟨bon F B, b12, (by unfold rcR; go_simp), bon F B⟩
              · refine ⟨_, rfl, ?_⟩
                unfold rcR
                go_simp
                go_wp2_with fail
                have bx := box_below W #[.int .i64 0, .int .i64 0, .int .i64 0, .int .i64 0] 44
                exact ⟨bon F bx, W.heap.size, (by unfold rcR; go_simp), bon F bx, VBox.made W 0 0 0 0 44, F.size⟩
            | 2, _ =>
              intro a' W h
              obtain ⟨b12, rfl, F, E12, G12⟩ := h
              refine ⟨fun h => absurd h (by decide), ?_⟩
              refine al1 ?_
              · refine ⟨_, rfl, ?_⟩
                unfold rcR
                go_simp
                go_wp2_with (go_at_call 40; (refine (CA0.out _).mono ?_); rintro _ V ⟨rfl, B⟩)
                exact ⟨bon F B, b12, (by unfold rcR; go_simp), bon F B, E12.on B, G12⟩
            | 3, _ =>
              intro a' W h
              obtain ⟨b12, rfl, F⟩ := h
              refine ⟨fun h => absurd h (by decide), ?_⟩
              refine al2 ?_ ?_
              · refine ⟨_, rfl, ?_⟩
                unfold rcR
                go_simp
                go_wp2_with (go_at_call 40; (refine (CA2.out _).mono ?_); rintro _ V ⟨rfl, B⟩)
                exact ⟨bon F B, b12, (by unfold rcR; go_simp), bon F B⟩
              · refine ⟨_, rfl, ?_⟩
                unfold rcR
                go_simp
                go_wp2_with fail
                have bx := box_below W #[.int .i64 0, .int .i64 0, .int .i64 0, .int .i64 0] 44
                exact ⟨bon F bx, W.heap.size, (by unfold rcR; go_simp), bon F bx, VBox.made W 0 0 0 0 44, F.size⟩
            | 4, _ =>
              intro a' W h
              obtain ⟨b12, rfl, F, E12, G12⟩ := h
              refine ⟨fun h => absurd h (by decide), ?_⟩
              refine al1 ?_
              · refine ⟨_, rfl, ?_⟩
                unfold rcR
                go_simp
                go_wp2_with (go_at_call 40; (refine (CA1.out _).mono ?_); rintro _ V ⟨rfl, B⟩)
                exact ⟨bon F B, b12, (by unfold rcR; go_simp), bon F B, E12.on B, G12⟩
            | 5, _ =>
              intro a' W h
              obtain ⟨b12, rfl, F⟩ := h
              refine ⟨fun h => absurd h (by decide), ?_⟩
              refine al2 ?_ ?_
              · refine ⟨_, rfl, ?_⟩
                unfold rcR
                go_simp
                go_wp2_with (go_at_call 40; (refine (CA3.out _).mono ?_); rintro _ V ⟨rfl, B⟩)
                exact ⟨bon F B, b12, (by unfold rcR; go_simp), bon F B⟩
              · refine ⟨_, rfl, ?_⟩
                unfold rcR
                go_simp
                go_wp2_with fail
                have bx := box_below W #[.int .i64 0, .int .i64 0, .int .i64 0, .int .i64 0] 44
                exact ⟨bon F bx, W.heap.size, (by unfold rcR; go_simp), bon F bx, VBox.made W 0 0 0 0 44, F.size⟩
            | 6, _ =>
              intro a' W h
              obtain ⟨b12, rfl, F, E12, G12⟩ := h
              refine ⟨fun h => absurd h (by decide), ?_⟩
              refine al1 ?_
              · refine ⟨_, rfl, ?_⟩
                unfold rcR
                go_simp
                go_wp2_with (go_at_call 40; (refine (CA2.out _).mono ?_); rintro _ V ⟨rfl, B⟩)
                exact ⟨bon F B, b12, (by unfold rcR; go_simp), bon F B, E12.on B, G12⟩
            | 7, _ =>
              intro a' W h
              obtain ⟨b12, rfl, F⟩ := h
              refine ⟨fun h => absurd h (by decide), ?_⟩
              refine al2 ?_ ?_
              · refine ⟨_, rfl, ?_⟩
                unfold rcR
                go_simp
                go_wp2_with fail
                exact ⟨F, b12, (by unfold rcR; go_simp), F⟩
              · refine ⟨_, rfl, ?_⟩
                unfold rcR
                go_simp
                go_wp2_with fail
                have bx := box_below W #[.int .i64 0, .int .i64 0, .int .i64 0, .int .i64 0] 44
                exact ⟨bon F bx, W.heap.size, (by unfold rcR; go_simp), bon F bx, VBox.made W 0 0 0 0 44, F.size⟩
            | 8, _ =>
              intro a' W h
              obtain ⟨b12, rfl, F, E12, G12⟩ := h
              refine ⟨fun h => absurd h (by decide), ?_⟩
              refine al1 ?_
              · refine ⟨_, rfl, ?_⟩
                unfold rcR
                go_simp
                go_wp2_with (go_at_call 40; (refine (CA3.out _).mono ?_); rintro _ V ⟨rfl, B⟩)
                exact ⟨bon F B, b12, (by unfold rcR; go_simp), bon F B, E12.on B, G12⟩
            | 9, _ =>
              intro a' W h
              obtain ⟨b12, rfl, F⟩ := h
              refine ⟨fun h => absurd h (by decide), ?_⟩
              refine al1 ?_
              · refine ⟨_, rfl, ?_⟩
                unfold rcR
                go_simp
                go_wp2_with fail
                have bx := box_below W #[.int .i64 0, .int .i64 0, .int .i64 0, .int .i64 0] 44
                exact ⟨bon F bx, W.heap.size, (by unfold rcR; go_simp), bon F bx, VBox.made W 0 0 0 0 44, F.size⟩
            | 10, _ =>
              intro a' W h
              obtain ⟨b12, rfl, F, E12, G12⟩ := h
              refine ⟨fun h => absurd h (by decide), ?_⟩
              refine al1 ?_
              · refine ⟨_, rfl, ?_⟩
                unfold rcR
                go_simp
                go_wp2_with fail
                exact ⟨F, b12, (by unfold rcR; go_simp), F, E12, G12⟩
            | 11, _ =>
              intro a' W h
              obtain ⟨b12, rfl, F, E12, G12⟩ := h
              refine ⟨fun h => absurd h (by decide), ?_⟩
              refine al1 ?_
              · refine ⟨_, rfl, ?_⟩
                unfold rcR
                go_simp
                go_wp2_with (refine wpList_vset rfl _ _ _ rfl _ _ _ _ rfl rfl E12 (by kernel_rfl) ?_; intro V B E12' hv _)
                exact ⟨F.trans (B.mono G12), b12, (by unfold rcR; go_simp), F.trans (B.mono G12), E12', G12⟩
            | 12, _ =>
              intro a' W h
              obtain ⟨b12, rfl, F, E12, G12⟩ := h
              exact ⟨fun _ => rfl, fun e he => by cases he⟩
            | k + 13, hk => exact absurd hk (by show ¬ k + 13 < 13; omega)
          rintro _ U3 ⟨b12, rfl, F, E12, G12⟩
          have hne12 := own_ne OWN.out G12
          have hlt12 : bO < b12 := Nat.lt_of_lt_of_le EO.lt G12
          replace D := D.on F
          replace E2 := E2.on F
          replace EO := EO.on F
          have OWN1 := Lib.hid (OWN.out.on F)
          clear OWN
          have OWN := OWN1
          clear OWN1
          replace KX := KX.on F
          replace BB := bon BB F
          clear F E8 E9 E10 E11 G12 CA0 CA1 CA2 CA3 KX gX gY gw gh
          unfold rcR
          go_simp
          go_wp2_with fail
          refine wp_region_treeC (fun Wd => IAt Wd sz f wd ht A n c ∧ VecAt Wd b12 (av 0) (av 1) (av 2) (av 3)) (.read 0 (.read 2 (.read 3 (.read 4 (.fork2 1 (.fork1 5 (.fork1 6 (.read 7 (.fork1 8 .nil)))) 5 (.fork1 1 (.fork1 6 (.read 7 (.fork1 8 .nil))))))))) (by kernel_rfl) (by kernel_rfl) (fun Wd hB => ⟨D.on hB, E12.1.on hB⟩) ?_
          intro U4 B0
          replace D := D.on B0
          replace E2 := E2.on B0
          replace EO := EO.on B0
          have OWN1 := Lib.hid (OWN.out.on B0)
          clear OWN
          have OWN := OWN1
          clear OWN1
          replace E12 := E12.on B0
          replace BB := bon BB B0
          clear B0
          refine tree_read rfl ?_
          refine wpQuiet_step (fun K hK => ?_)
          rw [if_pos (by rfl)]
          refine quiet_val (.pointer (some ⟨bO, 3, none⟩)) (fun W hW => by simp [execOp, go_sem]) ?_
          go_simp
          refine hK _ ?_
          clear hK K
          refine wpQuiet_nil ?_
          refine tree_read rfl ?_
          refine wpQuiet_step (fun K hK => ?_)
          rw [if_pos (by rfl)]
          refine quiet_val (.pointer (some ⟨sz, 0, none⟩)) (fun W hW => by simp [execOp, go_sem]) ?_
          go_simp
          refine hK _ ?_
          clear hK K
          refine wpQuiet_nil ?_
          refine tree_read rfl ?_
          refine wpQuiet_step (fun K hK => ?_)
          rw [if_pos (by rfl)]
          refine quiet_val (.int .i64 f) (fun W hW => by have h0 := hW.1.1; simp [execOp, go_sem, h0]) ?_
          go_simp
          refine hK _ ?_
          clear hK K
          refine wpQuiet_nil ?_
          refine tree_read rfl ?_
          refine wpQuiet_step (fun K hK => ?_)
          rw [if_pos (by rfl)]
          refine quiet_vload _ _ rfl vecT (fun W hW => hW.2) rfl ?_
          go_simp
          refine hK _ ?_
          clear hK K
          refine wpQuiet_nil ?_
          refine tree_two rfl rfl ?_ ?_
          · obtain ⟨⟨k0, k1, k2, k3⟩, _⟩ := id EO
            go_wp2_with fail
            clear k0 k1 k2 k3
            refine ⟨⟨D, E12.1⟩, ?_⟩
            refine tree_one rfl ?_
            go_wp2_with (go_at_call 41; (refine (CE.out _ _ _ _ _ _).mono ?_); rintro _ U5 ⟨A7, n7, c7, rfl, hc7, K7, B⟩)
            replace E12 := E12.on B
            replace BB := bon BB B
            replace D := D.on B
            replace E2 := E2.on B
            replace EO := EO.on B
            have OWN1 := Lib.hid (OWN.out.on B)
            clear OWN
            have OWN := OWN1
            clear OWN1
            clear B
            rw [← HT.out] at K7
            obtain rfl : n7 = sz8 := by rw [← K7.len, HEL.out]
            refine ⟨⟨D, E12.1⟩, ?_⟩
            refine tree_one rfl ?_
            go_wp2_with (refine wpList_appG _ rfl _ _ _ rfl eB OWN.out rfl K7 rfl (by omega) (by simp only [maxLen]; omega) (by omega) ?_; intro A8 c8 U6 own8 hg)
            have hnO := own_ne' (b := bO) OWN.out (by omega)
            have hnS := own_ne' (b := sz) OWN.out (by omega)
            have hn2 := own_ne' (b := sz + 1) OWN.out (by omega)
            have BB6 := BB.trans (below_grown BB.size hg fun k hk => Nat.le_trans hwb (OWN.out.1.lt k hk).1)
            replace D := D.past' hg hnS
            replace E2 := E2.past' hg hn2
            replace EO := EO.past' hg hnO
            have e12 := E12.1.past' hg hne12
            refine ⟨⟨D, e12⟩, ?_⟩
            rw [← HO.out] at own8
            have O8 := Lib.hid own8
            clear own8 hg K7 BB OWN E12 hnO hnS hn2
            refine tree_read rfl ?_
            refine wpQuiet_step (fun K hK => ?_)
            rw [if_pos (by rfl)]
            refine quiet_val (.pointer (some ⟨bO, 3, none⟩)) (fun W hW => by simp [execOp, go_sem]) ?_
            go_simp
            refine hK _ ?_
            clear hK K
            refine wpQuiet_nil ?_
            refine tree_one rfl ?_
            obtain ⟨⟨k0, k1, k2, k3⟩, kf⟩ := id EO
            have kf3 := kf 3
            go_wp2_with fail
            have hg2 := grownBy_setCell U6 bO 3 (.slice A8 (m + n7) c8)
            refine ⟨⟨D.past' hg2 (fun e => by simp at e; omega), e12.past' hg2 (fun e => by simp at e; omega)⟩, ?_⟩
            refine tree_nil ?_
            go_wp2
            go_roundw
            case rel => exact ⟨X + 1, m + n7, c8, A8, by omega, by go_num, D.past' hg2 (fun e => by simp at e; omega), E2.past' hg2 (fun e => by simp at e; omega), EO.setData A8 (m + n7) c8, by rw [← Nat.add_assoc]; exact O8.out.past hg2 (by omega), BB6.trans ((Below.refl _ _).setCell (show w.heap.size ≤ bO by omega) _)⟩
            case measure => simp [intOf]; omega
          · go_wp2_with (go_at_call 41; (refine (CE.out _ _ _ _ _ _).mono ?_); rintro _ U5 ⟨A7, n7, c7, rfl, hc7, K7, B⟩)
            replace E12 := E12.on B
            replace BB := bon BB B
            replace D := D.on B
            replace E2 := E2.on B
            replace EO := EO.on B
            have OWN1 := Lib.hid (OWN.out.on B)
            clear OWN
            have OWN := OWN1
            clear OWN1
            clear B
            rw [← HT.out] at K7
            obtain rfl : n7 = sz8 := by rw [← K7.len, HEL.out]
            refine ⟨⟨D, E12.1⟩, ?_⟩
            refine tree_one rfl ?_
            obtain ⟨⟨k0, k1, k2, k3⟩, _⟩ := id EO
            go_wp2_with fail
            clear k0 k1 k2 k3
            refine ⟨⟨D, E12.1⟩, ?_⟩
            refine tree_one rfl ?_
            go_wp2_with (refine wpList_appG _ rfl _ _ _ rfl eB OWN.out rfl K7 rfl (by omega) (by simp only [maxLen]; omega) (by omega) ?_; intro A8 c8 U6 own8 hg)
            have hnO := own_ne' (b := bO) OWN.out (by omega)
            have hnS := own_ne' (b := sz) OWN.out (by omega)
            have hn2 := own_ne' (b := sz + 1) OWN.out (by omega)
            have BB6 := BB.trans (below_grown BB.size hg fun k hk => Nat.le_trans hwb (OWN.out.1.lt k hk).1)
            replace D := D.past' hg hnS
            replace E2 := E2.past' hg hn2
            replace EO := EO.past' hg hnO
            have e12 := E12.1.past' hg hne12
            refine ⟨⟨D, e12⟩, ?_⟩
            rw [← HO.out] at own8
            have O8 := Lib.hid own8
            clear own8 hg K7 BB OWN E12 hnO hnS hn2
            refine tree_read rfl ?_
            refine wpQuiet_step (fun K hK => ?_)
            rw [if_pos (by rfl)]
            refine quiet_val (.pointer (some ⟨bO, 3, none⟩)) (fun W hW => by simp [execOp, go_sem]) ?_
            go_simp
            refine hK _ ?_
            clear hK K
            refine wpQuiet_nil ?_
            refine tree_one rfl ?_
            obtain ⟨⟨k0, k1, k2, k3⟩, kf⟩ := id EO
            have kf3 := kf 3
            go_wp2_with fail
            have hg2 := grownBy_setCell U6 bO 3 (.slice A8 (m + n7) c8)
            refine ⟨⟨D.past' hg2 (fun e => by simp at e; omega), e12.past' hg2 (fun e => by simp at e; omega)⟩, ?_⟩
            refine tree_nil ?_
            go_wp2
            go_roundw
            case rel => exact ⟨X + 1, m + n7, c8, A8, by omega, by go_num, D.past' hg2 (fun e => by simp at e; omega), E2.past' hg2 (fun e => by simp at e; omega), EO.setData A8 (m + n7) c8, by rw [← Nat.add_assoc]; exact O8.out.past hg2 (by omega), BB6.trans ((Below.refl _ _).setCell (show w.heap.size ≤ bO by omega) _)⟩
            case measure => simp [intOf]; omega
        · obtain rfl : X = Wn := by omega
          go_wp2
          go_roundw
          case rel => exact ⟨Y + 1, m, d, A9, by omega, by go_num, D, E2, EO, by rw [Nat.add_mul, Nat.one_mul]; exact OWN.out, BB⟩
          case measure => simp [intOf]; omega
    · obtain rfl : Y = Hn := by omega
      go_wp2_with (first | (refine wpList_iload rfl _ _ rfl imgT EO.1 rfl ?_) | (refine wpList_iset rfl _ _ _ rfl rfl rfl E2 (by kernel_rfl) ?_; intro V6 B6 E6 hg hz6))
      obtain ⟨⟨q0, q1, q2, q3⟩, _⟩ := E6
      have O6 := (OWN.out.past hg (by omega)).weak hwb
      subst hsz
      exact bodyPost_ret (v := .agg #[.int .i64 f, .int .i64 Wn, .int .i64 Y, .slice A9 m d]) (by simp [results, Try.results15, go_sem, *]) rfl ⟨A9, m, d, rfl, O6, BB.trans (B6.mono (by omega))⟩

end Go.Proofs.Ytcjlgfadjedgbaa
