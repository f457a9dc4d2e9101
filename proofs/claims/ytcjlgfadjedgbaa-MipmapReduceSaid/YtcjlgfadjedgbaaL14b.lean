/- MipmapReduce: the walk over the next level's texels, case b. Written by tools/gen/genL14.py. -/
import Derived.Test.YtcjlgfadjedgbaaL14
namespace Go.Proofs.Ytcjlgfadjedgbaa
open Go.RowKit Go.Sort
set_option linter.unusedVariables false

set_option maxRecDepth 100000 in
set_option maxHeartbeats 20000000 in
theorem reduce_mainb (f wd ht : Int) (A : Option Addr) (n c : Nat) (l : List Int) (w : World) (R : Rd w w.heap.size .u8 A n l) (hc : n ≤ c) (hn : n ≤ 2000) (hok : (Im.mk f wd ht l).ok) (h1 : wd = 1) (h2 : ¬ ht = 1) :
    Calls Try.prog 5 #[.agg #[.int .i64 f, .int .i64 wd, .int .i64 ht, .slice A n c]] w fun e w' => e = .returned (.bool true) ∧ Below w.heap.size w w' := by
  have D := (IBox.made w f wd ht A n c 25).1
  have BB := box_below w #[.int .i64 f, .int .i64 wd, .int .i64 ht, .slice A n c] 25
  have K0 := R.on BB
  have CE := Lib.hid (fun W => lexample_b W)
  have hno : ¬ (wd = 1 ∧ ht = 1) := fun k => h2 k.2
  have t1 : (wd == 1) = true := by simp [h1]
  have t2 : (ht == 1) = false := by simp [h2]
  clear h1 h2
  have cv := fun W => rivalid_b f wd ht A n c l W R.len
  rw [decide_eq_true hok] at cv
  have cr := fun W R => preduce_b f wd ht A n c l W R hc (by omega)
  have hrok := red_ok hok
  have hget := fun (X Y : Nat) hX hY i => red_get (m := Im.mk f wd ht l) hok hno (X := X) (Y := Y) hX hY i
  have hred := red_yes hok hno
  rw [hred] at hrok cr
  simp only [hred] at hget
  unfold GivesIO at cr
  simp only at cr hrok hget
  obtain ⟨hz, hw, hh, hlen⟩ := id hok
  simp only at hz hw hh hlen
  have hsw := hfs_side (n := wd) hw 1
  have hsh := hfs_side (n := ht) hh 1
  have e1 : hfs wd 1 = if 1 < wd / 2 then wd / 2 else 1 := by show (if wd / 2 < 1 then 1 else wd / 2) = _; split <;> split <;> omega
  have e2 : hfs ht 1 = if 1 < ht / 2 then ht / 2 else 1 := by show (if ht / 2 < 1 then 1 else ht / 2) = _; split <;> split <;> omega
  obtain ⟨w1, w2⟩ := hw
  obtain ⟨u1, u2⟩ := hh
  obtain ⟨Wn, hW⟩ : ∃ W : Nat, hfs wd 1 = W := ⟨(hfs wd 1).toNat, by have := hsw.1; omega⟩
  obtain ⟨Hn, hH⟩ : ∃ H : Nat, hfs ht 1 = H := ⟨(hfs ht 1).toNat, by have := hsh.1; omega⟩
  simp only [hW, hH] at hrok cr hget
  rw [hW] at e1
  rw [hH] at e2
  have hWs : ∀ X : Nat, X < Wn → 2 * (X : Int) ≤ wd - 1 := fun X hX => by split at e1 <;> omega
  have hHs : ∀ Y : Nat, Y < Hn → 2 * (Y : Int) ≤ ht - 1 := fun Y hY => by split at e2 <;> omega
  have hW32 : Wn ≤ 32 := by split at e1 <;> omega
  have hH32 : Hn ≤ 32 := by split at e2 <;> omega
  obtain ⟨rl, hrl⟩ : ∃ r, rpre (Im.mk f wd ht l) (Wn : Int).toNat ((Hn : Int).toNat * (Wn : Int).toNat) = r := ⟨_, rfl⟩
  simp only [hrl] at hrok cr hget
  have hav : ∀ (X Y : Nat) (r s : Int), (if wd - 1 < 2 * (X : Int) + 1 then wd - 1 else 2 * (X : Int) + 1) = r → (if ht - 1 < 2 * (Y : Int) + 1 then ht - 1 else 2 * (Y : Int) + 1) = s →
      ∀ i, avg (Im.mk f wd ht l) X Y i = rda ((Im.mk f wd ht l).get (2 * X) (2 * Y) i + (Im.mk f wd ht l).get r (2 * Y) i + (Im.mk f wd ht l).get (2 * X) s i + (Im.mk f wd ht l).get r s i) 4 := by
    rintro X Y _ _ rfl rfl i
    rfl
  have gb := fun u v i => get_bd (Im.mk f wd ht l) u v i
  have cg := fun x y W R => riget_b f wd ht A n c l x y W R hc
  have co := fun A2 n2 c2 x y W R hc => riget_b f Wn Hn A2 n2 c2 rl x y W R hc
  have cw := fun A2 n2 c2 W hl => rivalid_b f Wn Hn A2 n2 c2 rl W hl
  rw [decide_eq_true hrok] at cw
  have cd := fun g W => rrounddiv_b g 4 W
  have cq := fun x0 x1 x2 x3 W => rquant_b f x0 x1 x2 x3 W
  unfold GivesV at cg co cq
  obtain ⟨G, hG⟩ : ∃ G, (Im.mk f wd ht l).get = G := ⟨_, rfl⟩
  obtain ⟨AV, hAV⟩ : ∃ AV : Int → Int → Nat → Int, avg (Im.mk f wd ht l) = AV := ⟨_, rfl⟩
  obtain ⟨RG, hRG⟩ : ∃ G, (Im.mk f Wn Hn rl).get = G := ⟨_, rfl⟩
  simp only [hG] at gb cg hav
  simp only [hAV] at hav hget
  simp only [hRG] at co hget
  have CV := Lib.hid cv
  have CR := Lib.hid cr
  have CG := Lib.hid cg
  have CO := Lib.hid co
  have CW := Lib.hid cw
  have CD := Lib.hid cd
  have CQ := Lib.hid cq
  have GB := Lib.hid gb
  have HAV := Lib.hid hav
  have HG := Lib.hid hget
  have HWS := Lib.hid hWs
  have HHS := Lib.hid hHs
  have HE1 := Lib.hid e1.symm
  have HE2 := Lib.hid e2.symm
  clear cv cr cg co cw cd cq gb hav hget hWs hHs e1 e2 hsw hsh hW hH hrl hG hAV hRG hred hrok hok hno hz hlen R
  have hbig : ¬ (2000 : Int) < (n : Int) := by omega
  obtain ⟨sz, hsz⟩ : ∃ s, w.heap.size = s := ⟨_, rfl⟩
  rw [hsz] at D
  obtain ⟨j0, j1, j2, j3⟩ := id D
  go_enter Try.func5, Try.ntmps5
  rw [hsz]
  go_wp2_with (first
    | (refine wpList_iload rfl _ _ rfl imgT D rfl ?_)
    | (refine wpList_iload rfl _ _ rfl imgT D2 rfl ?_)
    | (go_at_call 20; (with_reducible refine (CV.out _).mono ?_); rintro _ V1 ⟨rfl, B⟩; clear j0 j1 j2 j3; replace BB := bon BB B; replace K0 := K0.on B; replace D := D.on B; clear B; obtain ⟨j0, j1, j2, j3⟩ := id D)
    | (go_at_call 14; (with_reducible refine (CR.out _ K0).mono ?_); rintro _ V2 ⟨A2, n2, c2, rfl, own, B⟩; clear j0 j1 j2 j3; have KO := own.rd; have hc2 := own.room; have hl2 := own.len; replace BB := bon BB B; replace K0 := K0.on B; replace D := D.on B; clear B own; obtain ⟨j0, j1, j2, j3⟩ := id D)
    | (refine wpList_iset rfl _ _ _ rfl rfl rfl (IBox.made V2 0 0 0 none 0 0 25) (by kernel_rfl) ?_; intro V3 B3 E0 hg3 hz3; have D2 := E0.1; clear E0 j0 j1 j2 j3; have hlt := block_lt_of_cell D.1; have B := (box_below V2 #[.int .i64 0, .int .i64 0, .int .i64 0, .slice none 0 0] 25).trans B3; replace D := D.on B; clear B3 hg3 hz3; obtain ⟨j0, j1, j2, j3⟩ := id D; obtain ⟨k0, k1, k2, k3⟩ := id D2)
    | (refine wpList_max rfl _ _ _ rfl rfl rfl HE1.out ?_)
    | (refine wpList_maxG (by rfl) _ _ _ rfl rfl rfl HE2.out ?_)
    | (go_at_call 20; (with_reducible refine (CW.out A2 n2 c2 _ hl2).mono ?_); rintro _ V4 ⟨rfl, B4⟩; clear j0 j1 j2 j3 k0 k1 k2 k3; replace B := bon B B4; replace D := D.on B4; replace D2 := D2.on B4; clear B4; obtain ⟨j0, j1, j2, j3⟩ := id D; obtain ⟨k0, k1, k2, k3⟩ := id D2))
  obtain ⟨bo, hbo⟩ : ∃ b, V2.heap.size = b := ⟨_, rfl⟩
  rw [hbo] at D2 B K0 KO hlt ⊢
  have K0H := Lib.hid K0
  have KOH := Lib.hid KO
  have HBB := Lib.hid BB
  have BQ := B
  clear j0 j1 j2 j3 k0 k1 k2 k3 CV CR CW HE1 HE2 K0 KO BB B
  have BB := BQ
  clear BQ
  go_loopw [4] (fun i wr => ∃ Y : Nat, Y ≤ Hn ∧ i = .int .i64 Y ∧ IAt wr sz f wd ht A n c ∧ IAt wr bo f Wn Hn A2 n2 c2 ∧ Below bo V2 wr) (fun i _ => Hn - (intOf i).toNat)
  case atStart => exact ⟨0, by omega, rfl, D, D2, BB⟩
  case round =>
    clear D D2 BB
    obtain ⟨Y, hY, rfl, D, D2, BB⟩ := hrel
    obtain ⟨k0, k1, k2, k3⟩ := id D2
    by_cases hYH : Y < Hn
    · go_wp2
      clear k0 k1 k2 k3
      go_loopw [5] (fun i wr => ∃ X : Nat, X ≤ Wn ∧ i = .int .i64 X ∧ IAt wr sz f wd ht A n c ∧ IAt wr bo f Wn Hn A2 n2 c2 ∧ Below bo V2 wr) (fun i _ => Wn - (intOf i).toNat)
      case atStart => exact ⟨0, by omega, rfl, D, D2, BB⟩
      case round =>
        clear D D2 BB
        obtain ⟨X, hX, rfl, D, D2, BB⟩ := hrel
        obtain ⟨k0, k1, k2, k3⟩ := id D2
        by_cases hXW : X < Wn
        · have hx2 := HWS.out X hXW
          have hy2 := HHS.out Y hYH
          have gX : IntKind.i64.wrap (2 * (X : Int)) = 2 * (X : Int) := IntWalk.i64_in _ (by omega)
          have gY : IntKind.i64.wrap (2 * (Y : Int)) = 2 * (Y : Int) := IntWalk.i64_in _ (by omega)
          have gX1 : IntKind.i64.wrap (2 * (X : Int) + 1) = 2 * (X : Int) + 1 := IntWalk.i64_in _ (by omega)
          have gY1 : IntKind.i64.wrap (2 * (Y : Int) + 1) = 2 * (Y : Int) + 1 := IntWalk.i64_in _ (by omega)
          have gw : IntKind.i64.wrap (wd - 1) = wd - 1 := IntWalk.i64_in _ (by omega)
          have gh : IntKind.i64.wrap (ht - 1) = ht - 1 := IntWalk.i64_in _ (by omega)
          have HM1 : Hid ((if wd - 1 < 2 * (X : Int) then wd - 1 else 2 * (X : Int)) = 2 * (X : Int)) := Lib.hid (if_neg (by omega))
          have HM2 : Hid ((if ht - 1 < 2 * (Y : Int) then ht - 1 else 2 * (Y : Int)) = 2 * (Y : Int)) := Lib.hid (if_neg (by omega))
          obtain ⟨r, hr⟩ : ∃ r, (if wd - 1 < 2 * (X : Int) + 1 then wd - 1 else 2 * (X : Int) + 1) = r := ⟨_, rfl⟩
          obtain ⟨s, hs⟩ : ∃ s, (if ht - 1 < 2 * (Y : Int) + 1 then ht - 1 else 2 * (Y : Int) + 1) = s := ⟨_, rfl⟩
          have hav := HAV.out X Y r s hr hs
          have hqt := HG.out X Y (by omega) (by omega)
          have HM3 := Lib.hid hr
          have HM4 := Lib.hid hs
          clear hr hs
          have cg0 := fun W R => CG.out (2 * (X : Int)) (2 * (Y : Int)) W R
          have cg1 := fun W R => CG.out r (2 * (Y : Int)) W R
          have cg2 := fun W R => CG.out (2 * (X : Int)) s W R
          have cg3 := fun W R => CG.out r s W R
          have ga := fun i => GB.out (2 * (X : Int)) (2 * (Y : Int)) i
          have gb := fun i => GB.out r (2 * (Y : Int)) i
          have gc := fun i => GB.out (2 * (X : Int)) s i
          have gd := fun i => GB.out r s i
          obtain ⟨va, hva⟩ : ∃ v, G (2 * (X : Int)) (2 * (Y : Int)) = v := ⟨_, rfl⟩
          obtain ⟨vb, hvb⟩ : ∃ v, G r (2 * (Y : Int)) = v := ⟨_, rfl⟩
          obtain ⟨vc, hvc⟩ : ∃ v, G (2 * (X : Int)) s = v := ⟨_, rfl⟩
          obtain ⟨vd, hvd⟩ : ∃ v, G r s = v := ⟨_, rfl⟩
          simp only [hva] at cg0 ga hav
          simp only [hvb] at cg1 gb hav
          simp only [hvc] at cg2 gc hav
          simp only [hvd] at cg3 gd hav
          obtain ⟨a0, ha0⟩ : ∃ a, AV X Y 0 = a := ⟨_, rfl⟩
          obtain ⟨a1, ha1⟩ : ∃ a, AV X Y 1 = a := ⟨_, rfl⟩
          obtain ⟨a2, ha2⟩ : ∃ a, AV X Y 2 = a := ⟨_, rfl⟩
          obtain ⟨a3, ha3⟩ : ∃ a, AV X Y 3 = a := ⟨_, rfl⟩
          have h0 := hav 0
          have h1 := hav 1
          have h2 := hav 2
          have h3 := hav 3
          rw [ha0] at h0
          rw [ha1] at h1
          rw [ha2] at h2
          rw [ha3] at h3
          simp only [ha0, ha1, ha2, ha3] at hqt
          have CG0 := Lib.hid cg0
          have CG1 := Lib.hid cg1
          have CG2 := Lib.hid cg2
          have CG3 := Lib.hid cg3
          have HQT := Lib.hid hqt
          have H0 := Lib.hid h0
          have H1 := Lib.hid h1
          have H2 := Lib.hid h2
          have H3 := Lib.hid h3
          have GA := Lib.hid ga
          have GBB := Lib.hid gb
          have GC := Lib.hid gc
          have GD := Lib.hid gd
          clear cg0 cg1 cg2 cg3 ga gb gc gd hav hva hvb hvc hvd ha0 ha1 ha2 ha3 h0 h1 h2 h3 hqt
          obtain ⟨i0, i1, i2, i3⟩ := id D
          have hDl := block_lt_of_cell D.1
          have hEl := block_lt_of_cell D2.1
          go_wp2_with (refine wpList_vset rfl _ _ _ rfl 0 0 0 0 rfl rfl (VBox.made wr 0 0 0 0 44) (by kernel_rfl) ?_; intro U0 B0 VS hc0 hf0)
          have B := (box_below wr #[.int .i64 0, .int .i64 0, .int .i64 0, .int .i64 0] 44).trans B0
          clear k0 k1 k2 k3 i0 i1 i2 i3 B0 hc0 hf0
          replace BB := BB.trans (B.mono (by omega))
          replace D := D.on B
          replace D2 := D2.on B
          clear B
          obtain ⟨bs, hbs⟩ : ∃ b, wr.heap.size = b := ⟨_, rfl⟩
          rw [hbs] at VS hDl hEl ⊢
          clear hbs
          go_loopw [7] (fun i wr => ∃ j : Nat, j ≤ 4 ∧ i = .int .i64 j ∧ IAt wr sz f wd ht A n c ∧ IAt wr bo f Wn Hn A2 n2 c2 ∧ VBox wr bs (rsm va vb vc vd j 0) (rsm va vb vc vd j 1) (rsm va vb vc vd j 2) (rsm va vb vc vd j 3) ∧ Below bo V2 wr) (fun i _ => 4 - (intOf i).toNat)
          case atStart => exact ⟨0, by omega, rfl, D, D2, VS, BB⟩
          case round =>
            clear D D2 VS BB
            obtain ⟨j, hj, rfl, D, D2, VS, BB⟩ := hrel
            have hbw : bo ≤ wr.heap.size := hbo ▸ BB.size
            have hj4 : j = 0 ∨ j = 1 ∨ j = 2 ∨ j = 3 ∨ j = 4 := by omega
            rcases hj4 with rfl | rfl | rfl | rfl | rfl
            · change VBox _ bs (0) (0) (0) (0) at VS
              have KX := (K0H.out.below BB).more hbw
              have b00 := GA.out 0
              have gs0 : IntKind.i64.wrap (va 0) = va 0 := IntWalk.i64_in _ (by omega)
              have b01 := GA.out 1
              have gs1 : IntKind.i64.wrap (va 1) = va 1 := IntWalk.i64_in _ (by omega)
              have b02 := GA.out 2
              have gs2 : IntKind.i64.wrap (va 2) = va 2 := IntWalk.i64_in _ (by omega)
              have b03 := GA.out 3
              have gs3 : IntKind.i64.wrap (va 3) = va 3 := IntWalk.i64_in _ (by omega)
              clear b00 b01 b02 b03
              obtain ⟨i0, i1, i2, i3⟩ := id D
              go_wp2_with (first
                | (refine wpList_iload rfl _ _ rfl imgT D rfl ?_)
                | (refine wpList_min rfl _ _ _ rfl rfl rfl HM1.out ?_)
                | (refine wpList_min rfl _ _ _ rfl rfl rfl HM2.out ?_)
                | (refine wpList_min rfl _ _ _ rfl rfl rfl HM3.out ?_)
                | (refine wpList_min rfl _ _ _ rfl rfl rfl HM4.out ?_)
                | (go_at_call 21; (with_reducible refine (CG0.out _ KX).mono ?_); rintro _ V5 ⟨rfl, B⟩; clear i0 i1 i2 i3; replace BB := BB.trans (B.mono hbw); replace D := D.on B; replace D2 := D2.on B; replace VS := VS.on B; clear B KX)
                | (refine wpList_vset rfl _ _ _ rfl (va 0) (va 1) (va 2) (va 3) rfl rfl (VBox.made V5 0 0 0 0 44) (by kernel_rfl) ?_; intro U1 B1 VT hc1 hf1; have hbw2 : bo ≤ V5.heap.size := hbo ▸ BB.size; have B := (box_below V5 #[.int .i64 0, .int .i64 0, .int .i64 0, .int .i64 0] 44).trans B1; replace BB := BB.trans (B.mono hbw2); replace D := D.on B; replace D2 := D2.on B; replace VS := VS.on B; clear B B1 hc1 hf1; obtain ⟨⟨s0, s1, s2, s3⟩, _⟩ := id VS; obtain ⟨⟨q0, q1, q2, q3⟩, _⟩ := id VT)
                | (refine wpList_vset rfl _ _ _ rfl (va 0) (va 1) (va 2) (va 3) rfl rfl VS (by kernel_rfl) ?_; intro U2 B VS2 hc2 hf2; clear s0 s1 s2 s3 q0 q1 q2 q3 VT; replace BB := BB.trans (B.mono (by omega)); replace D := D.below hDl B; replace D2 := D2.below hEl B; clear B hc2 hf2))
              go_roundw
              case rel => exact ⟨1, by omega, by go_num, D, D2, VS2, BB⟩
              case measure => simp [intOf]
            · change VBox _ bs (va 0) (va 1) (va 2) (va 3) at VS
              have KX := (K0H.out.below BB).more hbw
              have b00 := GA.out 0
              have b10 := GBB.out 0
              have gs0 : IntKind.i64.wrap (va 0 + vb 0) = va 0 + vb 0 := IntWalk.i64_in _ (by omega)
              have b01 := GA.out 1
              have b11 := GBB.out 1
              have gs1 : IntKind.i64.wrap (va 1 + vb 1) = va 1 + vb 1 := IntWalk.i64_in _ (by omega)
              have b02 := GA.out 2
              have b12 := GBB.out 2
              have gs2 : IntKind.i64.wrap (va 2 + vb 2) = va 2 + vb 2 := IntWalk.i64_in _ (by omega)
              have b03 := GA.out 3
              have b13 := GBB.out 3
              have gs3 : IntKind.i64.wrap (va 3 + vb 3) = va 3 + vb 3 := IntWalk.i64_in _ (by omega)
              clear b00 b01 b02 b03 b10 b11 b12 b13
              obtain ⟨i0, i1, i2, i3⟩ := id D
              go_wp2_with (first
                | (refine wpList_iload rfl _ _ rfl imgT D rfl ?_)
                | (refine wpList_min rfl _ _ _ rfl rfl rfl HM1.out ?_)
                | (refine wpList_min rfl _ _ _ rfl rfl rfl HM2.out ?_)
                | (refine wpList_min rfl _ _ _ rfl rfl rfl HM3.out ?_)
                | (refine wpList_min rfl _ _ _ rfl rfl rfl HM4.out ?_)
                | (go_at_call 21; (with_reducible refine (CG1.out _ KX).mono ?_); rintro _ V5 ⟨rfl, B⟩; clear i0 i1 i2 i3; replace BB := BB.trans (B.mono hbw); replace D := D.on B; replace D2 := D2.on B; replace VS := VS.on B; clear B KX)
                | (refine wpList_vset rfl _ _ _ rfl (vb 0) (vb 1) (vb 2) (vb 3) rfl rfl (VBox.made V5 0 0 0 0 44) (by kernel_rfl) ?_; intro U1 B1 VT hc1 hf1; have hbw2 : bo ≤ V5.heap.size := hbo ▸ BB.size; have B := (box_below V5 #[.int .i64 0, .int .i64 0, .int .i64 0, .int .i64 0] 44).trans B1; replace BB := BB.trans (B.mono hbw2); replace D := D.on B; replace D2 := D2.on B; replace VS := VS.on B; clear B B1 hc1 hf1; obtain ⟨⟨s0, s1, s2, s3⟩, _⟩ := id VS; obtain ⟨⟨q0, q1, q2, q3⟩, _⟩ := id VT)
                | (refine wpList_vset rfl _ _ _ rfl (va 0 + vb 0) (va 1 + vb 1) (va 2 + vb 2) (va 3 + vb 3) rfl rfl VS (by kernel_rfl) ?_; intro U2 B VS2 hc2 hf2; clear s0 s1 s2 s3 q0 q1 q2 q3 VT; replace BB := BB.trans (B.mono (by omega)); replace D := D.below hDl B; replace D2 := D2.below hEl B; clear B hc2 hf2))
              go_roundw
              case rel => exact ⟨2, by omega, by go_num, D, D2, VS2, BB⟩
              case measure => simp [intOf]
            · change VBox _ bs (va 0 + vb 0) (va 1 + vb 1) (va 2 + vb 2) (va 3 + vb 3) at VS
              have KX := (K0H.out.below BB).more hbw
              have b00 := GA.out 0
              have b10 := GBB.out 0
              have b20 := GC.out 0
              have gs0 : IntKind.i64.wrap (va 0 + vb 0 + vc 0) = va 0 + vb 0 + vc 0 := IntWalk.i64_in _ (by omega)
              have b01 := GA.out 1
              have b11 := GBB.out 1
              have b21 := GC.out 1
              have gs1 : IntKind.i64.wrap (va 1 + vb 1 + vc 1) = va 1 + vb 1 + vc 1 := IntWalk.i64_in _ (by omega)
              have b02 := GA.out 2
              have b12 := GBB.out 2
              have b22 := GC.out 2
              have gs2 : IntKind.i64.wrap (va 2 + vb 2 + vc 2) = va 2 + vb 2 + vc 2 := IntWalk.i64_in _ (by omega)
              have b03 := GA.out 3
              have b13 := GBB.out 3
              have b23 := GC.out 3
              have gs3 : IntKind.i64.wrap (va 3 + vb 3 + vc 3) = va 3 + vb 3 + vc 3 := IntWalk.i64_in _ (by omega)
              clear b00 b01 b02 b03 b10 b11 b12 b13 b20 b21 b22 b23
              obtain ⟨i0, i1, i2, i3⟩ := id D
              go_wp2_with (first
                | (refine wpList_iload rfl _ _ rfl imgT D rfl ?_)
                | (refine wpList_min rfl _ _ _ rfl rfl rfl HM1.out ?_)
                | (refine wpList_min rfl _ _ _ rfl rfl rfl HM2.out ?_)
                | (refine wpList_min rfl _ _ _ rfl rfl rfl HM3.out ?_)
                | (refine wpList_min rfl _ _ _ rfl rfl rfl HM4.out ?_)
                | (go_at_call 21; (with_reducible refine (CG2.out _ KX).mono ?_); rintro _ V5 ⟨rfl, B⟩; clear i0 i1 i2 i3; replace BB := BB.trans (B.mono hbw); replace D := D.on B; replace D2 := D2.on B; replace VS := VS.on B; clear B KX)
                | (refine wpList_vset rfl _ _ _ rfl (vc 0) (vc 1) (vc 2) (vc 3) rfl rfl (VBox.made V5 0 0 0 0 44) (by kernel_rfl) ?_; intro U1 B1 VT hc1 hf1; have hbw2 : bo ≤ V5.heap.size := hbo ▸ BB.size; have B := (box_below V5 #[.int .i64 0, .int .i64 0, .int .i64 0, .int .i64 0] 44).trans B1; replace BB := BB.trans (B.mono hbw2); replace D := D.on B; replace D2 := D2.on B; replace VS := VS.on B; clear B B1 hc1 hf1; obtain ⟨⟨s0, s1, s2, s3⟩, _⟩ := id VS; obtain ⟨⟨q0, q1, q2, q3⟩, _⟩ := id VT)
                | (refine wpList_vset rfl _ _ _ rfl (va 0 + vb 0 + vc 0) (va 1 + vb 1 + vc 1) (va 2 + vb 2 + vc 2) (va 3 + vb 3 + vc 3) rfl rfl VS (by kernel_rfl) ?_; intro U2 B VS2 hc2 hf2; clear s0 s1 s2 s3 q0 q1 q2 q3 VT; replace BB := BB.trans (B.mono (by omega)); replace D := D.below hDl B; replace D2 := D2.below hEl B; clear B hc2 hf2))
              go_roundw
              case rel => exact ⟨3, by omega, by go_num, D, D2, VS2, BB⟩
              case measure => simp [intOf]
            · change VBox _ bs (va 0 + vb 0 + vc 0) (va 1 + vb 1 + vc 1) (va 2 + vb 2 + vc 2) (va 3 + vb 3 + vc 3) at VS
              have KX := (K0H.out.below BB).more hbw
              have b00 := GA.out 0
              have b10 := GBB.out 0
              have b20 := GC.out 0
              have b30 := GD.out 0
              have gs0 : IntKind.i64.wrap (va 0 + vb 0 + vc 0 + vd 0) = va 0 + vb 0 + vc 0 + vd 0 := IntWalk.i64_in _ (by omega)
              have b01 := GA.out 1
              have b11 := GBB.out 1
              have b21 := GC.out 1
              have b31 := GD.out 1
              have gs1 : IntKind.i64.wrap (va 1 + vb 1 + vc 1 + vd 1) = va 1 + vb 1 + vc 1 + vd 1 := IntWalk.i64_in _ (by omega)
              have b02 := GA.out 2
              have b12 := GBB.out 2
              have b22 := GC.out 2
              have b32 := GD.out 2
              have gs2 : IntKind.i64.wrap (va 2 + vb 2 + vc 2 + vd 2) = va 2 + vb 2 + vc 2 + vd 2 := IntWalk.i64_in _ (by omega)
              have b03 := GA.out 3
              have b13 := GBB.out 3
              have b23 := GC.out 3
              have b33 := GD.out 3
              have gs3 : IntKind.i64.wrap (va 3 + vb 3 + vc 3 + vd 3) = va 3 + vb 3 + vc 3 + vd 3 := IntWalk.i64_in _ (by omega)
              clear b00 b01 b02 b03 b10 b11 b12 b13 b20 b21 b22 b23 b30 b31 b32 b33
              obtain ⟨i0, i1, i2, i3⟩ := id D
              go_wp2_with (first
                | (refine wpList_iload rfl _ _ rfl imgT D rfl ?_)
                | (refine wpList_min rfl _ _ _ rfl rfl rfl HM1.out ?_)
                | (refine wpList_min rfl _ _ _ rfl rfl rfl HM2.out ?_)
                | (refine wpList_min rfl _ _ _ rfl rfl rfl HM3.out ?_)
                | (refine wpList_min rfl _ _ _ rfl rfl rfl HM4.out ?_)
                | (go_at_call 21; (with_reducible refine (CG3.out _ KX).mono ?_); rintro _ V5 ⟨rfl, B⟩; clear i0 i1 i2 i3; replace BB := BB.trans (B.mono hbw); replace D := D.on B; replace D2 := D2.on B; replace VS := VS.on B; clear B KX)
                | (refine wpList_vset rfl _ _ _ rfl (vd 0) (vd 1) (vd 2) (vd 3) rfl rfl (VBox.made V5 0 0 0 0 44) (by kernel_rfl) ?_; intro U1 B1 VT hc1 hf1; have hbw2 : bo ≤ V5.heap.size := hbo ▸ BB.size; have B := (box_below V5 #[.int .i64 0, .int .i64 0, .int .i64 0, .int .i64 0] 44).trans B1; replace BB := BB.trans (B.mono hbw2); replace D := D.on B; replace D2 := D2.on B; replace VS := VS.on B; clear B B1 hc1 hf1; obtain ⟨⟨s0, s1, s2, s3⟩, _⟩ := id VS; obtain ⟨⟨q0, q1, q2, q3⟩, _⟩ := id VT)
                | (refine wpList_vset rfl _ _ _ rfl (va 0 + vb 0 + vc 0 + vd 0) (va 1 + vb 1 + vc 1 + vd 1) (va 2 + vb 2 + vc 2 + vd 2) (va 3 + vb 3 + vc 3 + vd 3) rfl rfl VS (by kernel_rfl) ?_; intro U2 B VS2 hc2 hf2; clear s0 s1 s2 s3 q0 q1 q2 q3 VT; replace BB := BB.trans (B.mono (by omega)); replace D := D.below hDl B; replace D2 := D2.below hEl B; clear B hc2 hf2))
              go_roundw
              case rel => exact ⟨4, by omega, by go_num, D, D2, VS2, BB⟩
              case measure => simp [intOf]
            · change VBox _ bs (va 0 + vb 0 + vc 0 + vd 0) (va 1 + vb 1 + vc 1 + vd 1) (va 2 + vb 2 + vc 2 + vd 2) (va 3 + vb 3 + vc 3 + vd 3) at VS
              have VA := VS.1
              clear VS
              obtain ⟨g0, hg0⟩ : ∃ g, va 0 + vb 0 + vc 0 + vd 0 = g := ⟨_, rfl⟩
              have h0 := H0.out
              rw [hg0] at h0 VA
              have cd0 := CD.out g0
              simp only [← h0] at cd0
              have CD0 := Lib.hid cd0
              obtain ⟨g1, hg1⟩ : ∃ g, va 1 + vb 1 + vc 1 + vd 1 = g := ⟨_, rfl⟩
              have h1 := H1.out
              rw [hg1] at h1 VA
              have cd1 := CD.out g1
              simp only [← h1] at cd1
              have CD1 := Lib.hid cd1
              obtain ⟨g2, hg2⟩ : ∃ g, va 2 + vb 2 + vc 2 + vd 2 = g := ⟨_, rfl⟩
              have h2 := H2.out
              rw [hg2] at h2 VA
              have cd2 := CD.out g2
              simp only [← h2] at cd2
              have CD2 := Lib.hid cd2
              obtain ⟨g3, hg3⟩ : ∃ g, va 3 + vb 3 + vc 3 + vd 3 = g := ⟨_, rfl⟩
              have h3 := H3.out
              rw [hg3] at h3 VA
              have cd3 := CD.out g3
              simp only [← h3] at cd3
              have CD3 := Lib.hid cd3
              clear h0 hg0 cd0 h1 hg1 cd1 h2 hg2 cd2 h3 hg3 cd3
              have hqv : RG X Y = qnt f a0 a1 a2 a3 := funext HQT.out
              have cq := CQ.out a0 a1 a2 a3
              have co := fun W R => CO.out A2 n2 c2 X Y W R hc2
              rw [hqv] at co
              obtain ⟨z, hz⟩ : ∃ z, qnt f a0 a1 a2 a3 = z := ⟨_, rfl⟩
              rw [hz] at cq co
              have CQ1 := Lib.hid cq
              have CO1 := Lib.hid co
              clear cq co hqv hz
              go_wp2_with fail
              refine wp_region_treeC (fun W => VecAt W bs g0 g1 g2 g3) (.read 0 (.read 1 (.read 3 (.read 4 (.read 6 (.read 7 (.read 9 (.read 10 (.fork2 2 (.fork2 5 (.fork2 8 (.fork2 11 (.read 12 (.fork1 13 (.fork1 14 .nil))) 13 (.fork1 11 (.read 12 (.fork1 14 .nil)))) 13 (.fork1 8 (.fork1 11 (.read 12 (.fork1 14 .nil))))) 13 (.fork1 5 (.fork1 8 (.fork1 11 (.read 12 (.fork1 14 .nil)))))) 13 (.fork1 2 (.fork1 5 (.fork1 8 (.fork1 11 (.read 12 (.fork1 14 .nil))))))))))))))) (by kernel_rfl) (by kernel_rfl) (fun W hB => VA.on hB) ?_
              intro U0 B
              replace BB := BB.trans (B.mono hbw)
              replace D := D.on B
              replace D2 := D2.on B
              replace VA := VA.on B
              clear B hbw
              refine tree_read rfl ?_
              refine wpQuiet_step (fun K hK => ?_)
              rw [if_pos (by rfl)]
              refine quiet_val (.pointer (some ⟨bs, 0, none⟩)) (fun W hW => by simp [execOp, go_sem]) ?_
              go_simp
              refine hK _ ?_
              clear hK K
              refine wpQuiet_nil ?_
              refine tree_read rfl ?_
              refine wpQuiet_step (fun K hK => ?_)
              rw [if_pos (by rfl)]
              refine quiet_val (.int .i64 g0) (fun W hW => by have h0 := hW.1; simp [execOp, go_sem, h0]) ?_
              go_simp
              refine hK _ ?_
              clear hK K
              refine wpQuiet_nil ?_
              refine tree_read rfl ?_
              refine wpQuiet_step (fun K hK => ?_)
              rw [if_pos (by rfl)]
              refine quiet_val (.pointer (some ⟨bs, 1, none⟩)) (fun W hW => by simp [execOp, go_sem]) ?_
              go_simp
              refine hK _ ?_
              clear hK K
              refine wpQuiet_nil ?_
              refine tree_read rfl ?_
              refine wpQuiet_step (fun K hK => ?_)
              rw [if_pos (by rfl)]
              refine quiet_val (.int .i64 g1) (fun W hW => by have h0 := hW.2.1; simp [execOp, go_sem, h0]) ?_
              go_simp
              refine hK _ ?_
              clear hK K
              refine wpQuiet_nil ?_
              refine tree_read rfl ?_
              refine wpQuiet_step (fun K hK => ?_)
              rw [if_pos (by rfl)]
              refine quiet_val (.pointer (some ⟨bs, 2, none⟩)) (fun W hW => by simp [execOp, go_sem]) ?_
              go_simp
              refine hK _ ?_
              clear hK K
              refine wpQuiet_nil ?_
              refine tree_read rfl ?_
              refine wpQuiet_step (fun K hK => ?_)
              rw [if_pos (by rfl)]
              refine quiet_val (.int .i64 g2) (fun W hW => by have h0 := hW.2.2.1; simp [execOp, go_sem, h0]) ?_
              go_simp
              refine hK _ ?_
              clear hK K
              refine wpQuiet_nil ?_
              refine tree_read rfl ?_
              refine wpQuiet_step (fun K hK => ?_)
              rw [if_pos (by rfl)]
              refine quiet_val (.pointer (some ⟨bs, 3, none⟩)) (fun W hW => by simp [execOp, go_sem]) ?_
              go_simp
              refine hK _ ?_
              clear hK K
              refine wpQuiet_nil ?_
              refine tree_read rfl ?_
              refine wpQuiet_step (fun K hK => ?_)
              rw [if_pos (by rfl)]
              refine quiet_val (.int .i64 g3) (fun W hW => by have h0 := hW.2.2.2; simp [execOp, go_sem, h0]) ?_
              go_simp
              refine hK _ ?_
              clear hK K
              refine wpQuiet_nil ?_
              refine tree_two rfl rfl ?_ ?_
              · go_wp2_with (go_at_call 22; (with_reducible refine (CD0.out _).mono ?_); rintro _ U1 ⟨rfl, B⟩)
                refine ⟨VA.on B, ?_⟩
                have hbw : bo ≤ U0.heap.size := hbo ▸ BB.size
                replace BB := BB.trans (B.mono hbw)
                replace D := D.on B
                replace D2 := D2.on B
                replace VA := VA.on B
                clear B hbw
                refine tree_two rfl rfl ?_ ?_
                · go_wp2_with (go_at_call 22; (with_reducible refine (CD1.out _).mono ?_); rintro _ U2 ⟨rfl, B⟩)
                  refine ⟨VA.on B, ?_⟩
                  have hbw : bo ≤ U1.heap.size := hbo ▸ BB.size
                  replace BB := BB.trans (B.mono hbw)
                  replace D := D.on B
                  replace D2 := D2.on B
                  replace VA := VA.on B
                  clear B hbw
                  refine tree_two rfl rfl ?_ ?_
                  · go_wp2_with (go_at_call 22; (with_reducible refine (CD2.out _).mono ?_); rintro _ U3 ⟨rfl, B⟩)
                    refine ⟨VA.on B, ?_⟩
                    have hbw : bo ≤ U2.heap.size := hbo ▸ BB.size
                    replace BB := BB.trans (B.mono hbw)
                    replace D := D.on B
                    replace D2 := D2.on B
                    replace VA := VA.on B
                    clear B hbw
                    refine tree_two rfl rfl ?_ ?_
                    · go_wp2_with (go_at_call 22; (with_reducible refine (CD3.out _).mono ?_); rintro _ U4 ⟨rfl, B⟩)
                      refine ⟨VA.on B, ?_⟩
                      have hbw : bo ≤ U3.heap.size := hbo ▸ BB.size
                      replace BB := BB.trans (B.mono hbw)
                      replace D := D.on B
                      replace D2 := D2.on B
                      replace VA := VA.on B
                      clear B hbw
                      refine tree_read rfl ?_
                      refine wpQuiet_step (fun K hK => ?_)
                      rw [if_pos (by rfl)]
                      refine quiet_val (.agg #[.int .i64 a0, .int .i64 a1, .int .i64 a2, .int .i64 a3]) (fun W hW => by simp [execOp, go_sem]) ?_
                      go_simp
                      refine hK _ ?_
                      clear hK K
                      refine wpQuiet_nil ?_
                      refine tree_one rfl ?_
                      go_wp2_with fail
                      have B := box_below U4 #[.int .i64 0, .int .i64 0, .int .i64 0, .int .i64 0] 44
                      refine ⟨VA.on B, ?_⟩
                      have hbw : bo ≤ U4.heap.size := hbo ▸ BB.size
                      have hbn := block_lt_of_cell VA.1
                      refine tree_letter (S := fun U => IAt U sz f wd ht A n c ∧ IAt U bo f Wn Hn A2 n2 c2 ∧ VecAt U bs g0 g1 g2 g3 ∧ Below bo V2 U ∧ VBox U U4.heap.size 0 0 0 0) ?_ ⟨D.on B, D2.on B, VA.on B, BB.trans (B.mono hbw), VBox.made U4 0 0 0 0 44⟩
                      clear B D D2 VA BB
                      generalize U4.heap.size = bn at *
                      rintro U5 ⟨D, D2, VA, BB, VN⟩
                      refine tree_one rfl ?_
                      go_wp2_with (refine wpList_vset rfl _ _ _ rfl a0 a1 a2 a3 rfl rfl VN (by kernel_rfl) ?_; intro UC B VN2 hc hf)
                      replace BB := BB.trans (B.mono (by omega))
                      replace D := D.below (by omega) B
                      replace D2 := D2.below (by omega) B
                      replace VA := VA.below (by omega) B
                      clear VN
                      have VN := VN2
                      clear VN2 B hc hf
                      refine ⟨VA, ?_⟩
                      refine tree_nil ?_
                      try go_simp
                      have VN1 := VN.1
                      clear VN VA
                      have hbw : bo ≤ UC.heap.size := hbo ▸ BB.size
                      have KX := (KOH.out.below BB).more hbw
                      obtain ⟨j0, _, _, _⟩ := id D
                      go_wp2_with fail
                      have BBo := BB
                      clear BB
                      have BB := Below.refl UC.heap.size UC
                      have k_j0 := cell_regrown j0
                      refine wp_region_quiet_below (by kernel_rfl) (by kernel_rfl) ?_
                      repeat (first | (go_big_quiet_want; refine quiet_iload _ _ rfl imgT (fun W hW => IAt.on D (below_regrown' hW)) rfl ?_; go_simp; go_big_quiet_on) | (go_big_quiet_want; refine quiet_iload _ _ rfl imgT (fun W hW => IAt.on D2 (below_regrown' hW)) rfl ?_; go_simp; go_big_quiet_on) | (go_big_quiet_want; refine quiet_vload _ _ rfl vecT (fun W hW => VecAt.on VN1 (below_regrown' hW)) rfl ?_; go_simp; go_big_quiet_on) | go_big_quiet_step ((first | (go_at_call 21; with_reducible exact Calls.regrown_of (CO1.out _ (KX.on (below_regrown _ _ _)))) | (go_at_call 23; with_reducible exact Calls.regrown_of (CQ1.out _)))) | quiet_step ((first | (go_at_call 21; with_reducible exact Calls.regrown_of (CO1.out _ (KX.on (below_regrown _ _ _)))) | (go_at_call 23; with_reducible exact Calls.regrown_of (CQ1.out _)))))
                      refine wpQuiet_nil ?_
                      intro W hw'
                      have B := below_regrown' hw'
                      clear hw' k_j0
                      replace BB := bon BB B
                      replace j0 := cell_below B j0
                      replace D := IAt.on D B
                      replace D2 := IAt.on D2 B
                      replace VN1 := VecAt.on VN1 B
                      have BB1 := BBo.trans (BB.mono hbw)
                      clear BBo BB
                      have BB := BB1
                      clear BB1 hbw
                      go_wp2
                      go_roundw
                      case rel => exact ⟨X + 1, by omega, by go_num, D, D2, BB⟩
                      case measure => simp [intOf]; omega
                    · go_wp2_with fail
                      have B := box_below U3 #[.int .i64 0, .int .i64 0, .int .i64 0, .int .i64 0] 44
                      refine ⟨VA.on B, ?_⟩
                      have hbw : bo ≤ U3.heap.size := hbo ▸ BB.size
                      have hbn := block_lt_of_cell VA.1
                      refine tree_letter (S := fun U => IAt U sz f wd ht A n c ∧ IAt U bo f Wn Hn A2 n2 c2 ∧ VecAt U bs g0 g1 g2 g3 ∧ Below bo V2 U ∧ VBox U U3.heap.size 0 0 0 0) ?_ ⟨D.on B, D2.on B, VA.on B, BB.trans (B.mono hbw), VBox.made U3 0 0 0 0 44⟩
                      clear B D D2 VA BB
                      generalize U3.heap.size = bn at *
                      rintro U4 ⟨D, D2, VA, BB, VN⟩
                      refine tree_one rfl ?_
                      go_wp2_with (go_at_call 22; (with_reducible refine (CD3.out _).mono ?_); rintro _ U5 ⟨rfl, B⟩)
                      refine ⟨VA.on B, ?_⟩
                      have hbw : bo ≤ U4.heap.size := hbo ▸ BB.size
                      replace BB := BB.trans (B.mono hbw)
                      replace D := D.on B
                      replace D2 := D2.on B
                      replace VA := VA.on B
                      replace VN := VN.on B
                      clear B hbw
                      refine tree_read rfl ?_
                      refine wpQuiet_step (fun K hK => ?_)
                      rw [if_pos (by rfl)]
                      refine quiet_val (.agg #[.int .i64 a0, .int .i64 a1, .int .i64 a2, .int .i64 a3]) (fun W hW => by simp [execOp, go_sem]) ?_
                      go_simp
                      refine hK _ ?_
                      clear hK K
                      refine wpQuiet_nil ?_
                      refine tree_one rfl ?_
                      go_wp2_with (refine wpList_vset rfl _ _ _ rfl a0 a1 a2 a3 rfl rfl VN (by kernel_rfl) ?_; intro UC B VN2 hc hf)
                      replace BB := BB.trans (B.mono (by omega))
                      replace D := D.below (by omega) B
                      replace D2 := D2.below (by omega) B
                      replace VA := VA.below (by omega) B
                      clear VN
                      have VN := VN2
                      clear VN2 B hc hf
                      refine ⟨VA, ?_⟩
                      refine tree_nil ?_
                      try go_simp
                      have VN1 := VN.1
                      clear VN VA
                      have hbw : bo ≤ UC.heap.size := hbo ▸ BB.size
                      have KX := (KOH.out.below BB).more hbw
                      obtain ⟨j0, _, _, _⟩ := id D
                      go_wp2_with fail
                      have BBo := BB
                      clear BB
                      have BB := Below.refl UC.heap.size UC
                      have k_j0 := cell_regrown j0
                      refine wp_region_quiet_below (by kernel_rfl) (by kernel_rfl) ?_
                      repeat (first | (go_big_quiet_want; refine quiet_iload _ _ rfl imgT (fun W hW => IAt.on D (below_regrown' hW)) rfl ?_; go_simp; go_big_quiet_on) | (go_big_quiet_want; refine quiet_iload _ _ rfl imgT (fun W hW => IAt.on D2 (below_regrown' hW)) rfl ?_; go_simp; go_big_quiet_on) | (go_big_quiet_want; refine quiet_vload _ _ rfl vecT (fun W hW => VecAt.on VN1 (below_regrown' hW)) rfl ?_; go_simp; go_big_quiet_on) | go_big_quiet_step ((first | (go_at_call 21; with_reducible exact Calls.regrown_of (CO1.out _ (KX.on (below_regrown _ _ _)))) | (go_at_call 23; with_reducible exact Calls.regrown_of (CQ1.out _)))) | quiet_step ((first | (go_at_call 21; with_reducible exact Calls.regrown_of (CO1.out _ (KX.on (below_regrown _ _ _)))) | (go_at_call 23; with_reducible exact Calls.regrown_of (CQ1.out _)))))
                      refine wpQuiet_nil ?_
                      intro W hw'
                      have B := below_regrown' hw'
                      clear hw' k_j0
                      replace BB := bon BB B
                      replace j0 := cell_below B j0
                      replace D := IAt.on D B
                      replace D2 := IAt.on D2 B
                      replace VN1 := VecAt.on VN1 B
                      have BB1 := BBo.trans (BB.mono hbw)
                      clear BBo BB
                      have BB := BB1
                      clear BB1 hbw
                      go_wp2
                      go_roundw
                      case rel => exact ⟨X + 1, by omega, by go_num, D, D2, BB⟩
                      case measure => simp [intOf]; omega
                  · go_wp2_with fail
                    have B := box_below U2 #[.int .i64 0, .int .i64 0, .int .i64 0, .int .i64 0] 44
                    refine ⟨VA.on B, ?_⟩
                    have hbw : bo ≤ U2.heap.size := hbo ▸ BB.size
                    have hbn := block_lt_of_cell VA.1
                    refine tree_letter (S := fun U => IAt U sz f wd ht A n c ∧ IAt U bo f Wn Hn A2 n2 c2 ∧ VecAt U bs g0 g1 g2 g3 ∧ Below bo V2 U ∧ VBox U U2.heap.size 0 0 0 0) ?_ ⟨D.on B, D2.on B, VA.on B, BB.trans (B.mono hbw), VBox.made U2 0 0 0 0 44⟩
                    clear B D D2 VA BB
                    generalize U2.heap.size = bn at *
                    rintro U3 ⟨D, D2, VA, BB, VN⟩
                    refine tree_one rfl ?_
                    go_wp2_with (go_at_call 22; (with_reducible refine (CD2.out _).mono ?_); rintro _ U4 ⟨rfl, B⟩)
                    refine ⟨VA.on B, ?_⟩
                    have hbw : bo ≤ U3.heap.size := hbo ▸ BB.size
                    replace BB := BB.trans (B.mono hbw)
                    replace D := D.on B
                    replace D2 := D2.on B
                    replace VA := VA.on B
                    replace VN := VN.on B
                    clear B hbw
                    refine tree_one rfl ?_
                    go_wp2_with (go_at_call 22; (with_reducible refine (CD3.out _).mono ?_); rintro _ U5 ⟨rfl, B⟩)
                    refine ⟨VA.on B, ?_⟩
                    have hbw : bo ≤ U4.heap.size := hbo ▸ BB.size
                    replace BB := BB.trans (B.mono hbw)
                    replace D := D.on B
                    replace D2 := D2.on B
                    replace VA := VA.on B
                    replace VN := VN.on B
                    clear B hbw
                    refine tree_read rfl ?_
                    refine wpQuiet_step (fun K hK => ?_)
                    rw [if_pos (by rfl)]
                    refine quiet_val (.agg #[.int .i64 a0, .int .i64 a1, .int .i64 a2, .int .i64 a3]) (fun W hW => by simp [execOp, go_sem]) ?_
                    go_simp
                    refine hK _ ?_
                    clear hK K
                    refine wpQuiet_nil ?_
                    refine tree_one rfl ?_
                    go_wp2_with (refine wpList_vset rfl _ _ _ rfl a0 a1 a2 a3 rfl rfl VN (by kernel_rfl) ?_; intro UC B VN2 hc hf)
                    replace BB := BB.trans (B.mono (by omega))
                    replace D := D.below (by omega) B
                    replace D2 := D2.below (by omega) B
                    replace VA := VA.below (by omega) B
                    clear VN
                    have VN := VN2
                    clear VN2 B hc hf
                    refine ⟨VA, ?_⟩
                    refine tree_nil ?_
                    try go_simp
                    have VN1 := VN.1
                    clear VN VA
                    have hbw : bo ≤ UC.heap.size := hbo ▸ BB.size
                    have KX := (KOH.out.below BB).more hbw
                    obtain ⟨j0, _, _, _⟩ := id D
                    go_wp2_with fail
                    have BBo := BB
                    clear BB
                    have BB := Below.refl UC.heap.size UC
                    have k_j0 := cell_regrown j0
                    refine wp_region_quiet_below (by kernel_rfl) (by kernel_rfl) ?_
                    repeat (first | (go_big_quiet_want; refine quiet_iload _ _ rfl imgT (fun W hW => IAt.on D (below_regrown' hW)) rfl ?_; go_simp; go_big_quiet_on) | (go_big_quiet_want; refine quiet_iload _ _ rfl imgT (fun W hW => IAt.on D2 (below_regrown' hW)) rfl ?_; go_simp; go_big_quiet_on) | (go_big_quiet_want; refine quiet_vload _ _ rfl vecT (fun W hW => VecAt.on VN1 (below_regrown' hW)) rfl ?_; go_simp; go_big_quiet_on) | go_big_quiet_step ((first | (go_at_call 21; with_reducible exact Calls.regrown_of (CO1.out _ (KX.on (below_regrown _ _ _)))) | (go_at_call 23; with_reducible exact Calls.regrown_of (CQ1.out _)))) | quiet_step ((first | (go_at_call 21; with_reducible exact Calls.regrown_of (CO1.out _ (KX.on (below_regrown _ _ _)))) | (go_at_call 23; with_reducible exact Calls.regrown_of (CQ1.out _)))))
                    refine wpQuiet_nil ?_
                    intro W hw'
                    have B := below_regrown' hw'
                    clear hw' k_j0
                    replace BB := bon BB B
                    replace j0 := cell_below B j0
                    replace D := IAt.on D B
                    replace D2 := IAt.on D2 B
                    replace VN1 := VecAt.on VN1 B
                    have BB1 := BBo.trans (BB.mono hbw)
                    clear BBo BB
                    have BB := BB1
                    clear BB1 hbw
                    go_wp2
                    go_roundw
                    case rel => exact ⟨X + 1, by omega, by go_num, D, D2, BB⟩
                    case measure => simp [intOf]; omega
                · go_wp2_with fail
                  have B := box_below U1 #[.int .i64 0, .int .i64 0, .int .i64 0, .int .i64 0] 44
                  refine ⟨VA.on B, ?_⟩
                  have hbw : bo ≤ U1.heap.size := hbo ▸ BB.size
                  have hbn := block_lt_of_cell VA.1
                  refine tree_letter (S := fun U => IAt U sz f wd ht A n c ∧ IAt U bo f Wn Hn A2 n2 c2 ∧ VecAt U bs g0 g1 g2 g3 ∧ Below bo V2 U ∧ VBox U U1.heap.size 0 0 0 0) ?_ ⟨D.on B, D2.on B, VA.on B, BB.trans (B.mono hbw), VBox.made U1 0 0 0 0 44⟩
                  clear B D D2 VA BB
                  generalize U1.heap.size = bn at *
                  rintro U2 ⟨D, D2, VA, BB, VN⟩
                  refine tree_one rfl ?_
                  go_wp2_with (go_at_call 22; (with_reducible refine (CD1.out _).mono ?_); rintro _ U3 ⟨rfl, B⟩)
                  refine ⟨VA.on B, ?_⟩
                  have hbw : bo ≤ U2.heap.size := hbo ▸ BB.size
                  replace BB := BB.trans (B.mono hbw)
                  replace D := D.on B
                  replace D2 := D2.on B
                  replace VA := VA.on B
                  replace VN := VN.on B
                  clear B hbw
                  refine tree_one rfl ?_
                  go_wp2_with (go_at_call 22; (with_reducible refine (CD2.out _).mono ?_); rintro _ U4 ⟨rfl, B⟩)
                  refine ⟨VA.on B, ?_⟩
                  have hbw : bo ≤ U3.heap.size := hbo ▸ BB.size
                  replace BB := BB.trans (B.mono hbw)
                  replace D := D.on B
                  replace D2 := D2.on B
                  replace VA := VA.on B
                  replace VN := VN.on B
                  clear B hbw
                  refine tree_one rfl ?_
                  go_wp2_with (go_at_call 22; (with_reducible refine (CD3.out _).mono ?_); rintro _ U5 ⟨rfl, B⟩)
                  refine ⟨VA.on B, ?_⟩
                  have hbw : bo ≤ U4.heap.size := hbo ▸ BB.size
                  replace BB := BB.trans (B.mono hbw)
                  replace D := D.on B
                  replace D2 := D2.on B
                  replace VA := VA.on B
                  replace VN := VN.on B
                  clear B hbw
                  refine tree_read rfl ?_
                  refine wpQuiet_step (fun K hK => ?_)
                  rw [if_pos (by rfl)]
                  refine quiet_val (.agg #[.int .i64 a0, .int .i64 a1, .int .i64 a2, .int .i64 a3]) (fun W hW => by simp [execOp, go_sem]) ?_
                  go_simp
                  refine hK _ ?_
                  clear hK K
                  refine wpQuiet_nil ?_
                  refine tree_one rfl ?_
                  go_wp2_with (refine wpList_vset rfl _ _ _ rfl a0 a1 a2 a3 rfl rfl VN (by kernel_rfl) ?_; intro UC B VN2 hc hf)
                  replace BB := BB.trans (B.mono (by omega))
                  replace D := D.below (by omega) B
                  replace D2 := D2.below (by omega) B
                  replace VA := VA.below (by omega) B
                  clear VN
                  have VN := VN2
                  clear VN2 B hc hf
                  refine ⟨VA, ?_⟩
                  refine tree_nil ?_
                  try go_simp
                  have VN1 := VN.1
                  clear VN VA
                  have hbw : bo ≤ UC.heap.size := hbo ▸ BB.size
                  have KX := (KOH.out.below BB).more hbw
                  obtain ⟨j0, _, _, _⟩ := id D
                  go_wp2_with fail
                  have BBo := BB
                  clear BB
                  have BB := Below.refl UC.heap.size UC
                  have k_j0 := cell_regrown j0
                  refine wp_region_quiet_below (by kernel_rfl) (by kernel_rfl) ?_
                  repeat (first | (go_big_quiet_want; refine quiet_iload _ _ rfl imgT (fun W hW => IAt.on D (below_regrown' hW)) rfl ?_; go_simp; go_big_quiet_on) | (go_big_quiet_want; refine quiet_iload _ _ rfl imgT (fun W hW => IAt.on D2 (below_regrown' hW)) rfl ?_; go_simp; go_big_quiet_on) | (go_big_quiet_want; refine quiet_vload _ _ rfl vecT (fun W hW => VecAt.on VN1 (below_regrown' hW)) rfl ?_; go_simp; go_big_quiet_on) | go_big_quiet_step ((first | (go_at_call 21; with_reducible exact Calls.regrown_of (CO1.out _ (KX.on (below_regrown _ _ _)))) | (go_at_call 23; with_reducible exact Calls.regrown_of (CQ1.out _)))) | quiet_step ((first | (go_at_call 21; with_reducible exact Calls.regrown_of (CO1.out _ (KX.on (below_regrown _ _ _)))) | (go_at_call 23; with_reducible exact Calls.regrown_of (CQ1.out _)))))
                  refine wpQuiet_nil ?_
                  intro W hw'
                  have B := below_regrown' hw'
                  clear hw' k_j0
                  replace BB := bon BB B
                  replace j0 := cell_below B j0
                  replace D := IAt.on D B
                  replace D2 := IAt.on D2 B
                  replace VN1 := VecAt.on VN1 B
                  have BB1 := BBo.trans (BB.mono hbw)
                  clear BBo BB
                  have BB := BB1
                  clear BB1 hbw
                  go_wp2
                  go_roundw
                  case rel => exact ⟨X + 1, by omega, by go_num, D, D2, BB⟩
                  case measure => simp [intOf]; omega
              · go_wp2_with fail
                have B := box_below U0 #[.int .i64 0, .int .i64 0, .int .i64 0, .int .i64 0] 44
                refine ⟨VA.on B, ?_⟩
                have hbw : bo ≤ U0.heap.size := hbo ▸ BB.size
                have hbn := block_lt_of_cell VA.1
                refine tree_letter (S := fun U => IAt U sz f wd ht A n c ∧ IAt U bo f Wn Hn A2 n2 c2 ∧ VecAt U bs g0 g1 g2 g3 ∧ Below bo V2 U ∧ VBox U U0.heap.size 0 0 0 0) ?_ ⟨D.on B, D2.on B, VA.on B, BB.trans (B.mono hbw), VBox.made U0 0 0 0 0 44⟩
                clear B D D2 VA BB
                generalize U0.heap.size = bn at *
                rintro U1 ⟨D, D2, VA, BB, VN⟩
                refine tree_one rfl ?_
                go_wp2_with (go_at_call 22; (with_reducible refine (CD0.out _).mono ?_); rintro _ U2 ⟨rfl, B⟩)
                refine ⟨VA.on B, ?_⟩
                have hbw : bo ≤ U1.heap.size := hbo ▸ BB.size
                replace BB := BB.trans (B.mono hbw)
                replace D := D.on B
                replace D2 := D2.on B
                replace VA := VA.on B
                replace VN := VN.on B
                clear B hbw
                refine tree_one rfl ?_
                go_wp2_with (go_at_call 22; (with_reducible refine (CD1.out _).mono ?_); rintro _ U3 ⟨rfl, B⟩)
                refine ⟨VA.on B, ?_⟩
                have hbw : bo ≤ U2.heap.size := hbo ▸ BB.size
                replace BB := BB.trans (B.mono hbw)
                replace D := D.on B
                replace D2 := D2.on B
                replace VA := VA.on B
                replace VN := VN.on B
                clear B hbw
                refine tree_one rfl ?_
                go_wp2_with (go_at_call 22; (with_reducible refine (CD2.out _).mono ?_); rintro _ U4 ⟨rfl, B⟩)
                refine ⟨VA.on B, ?_⟩
                have hbw : bo ≤ U3.heap.size := hbo ▸ BB.size
                replace BB := BB.trans (B.mono hbw)
                replace D := D.on B
                replace D2 := D2.on B
                replace VA := VA.on B
                replace VN := VN.on B
                clear B hbw
                refine tree_one rfl ?_
                go_wp2_with (go_at_call 22; (with_reducible refine (CD3.out _).mono ?_); rintro _ U5 ⟨rfl, B⟩)
                refine ⟨VA.on B, ?_⟩
                have hbw : bo ≤ U4.heap.size := hbo ▸ BB.size
                replace BB := BB.trans (B.mono hbw)
                replace D := D.on B
                replace D2 := D2.on B
                replace VA := VA.on B
                replace VN := VN.on B
                clear B hbw
                refine tree_read rfl ?_
                refine wpQuiet_step (fun K hK => ?_)
                rw [if_pos (by rfl)]
                refine quiet_val (.agg #[.int .i64 a0, .int .i64 a1, .int .i64 a2, .int .i64 a3]) (fun W hW => by simp [execOp, go_sem]) ?_
                go_simp
                refine hK _ ?_
                clear hK K
                refine wpQuiet_nil ?_
                refine tree_one rfl ?_
                go_wp2_with (refine wpList_vset rfl _ _ _ rfl a0 a1 a2 a3 rfl rfl VN (by kernel_rfl) ?_; intro UC B VN2 hc hf)
                replace BB := BB.trans (B.mono (by omega))
                replace D := D.below (by omega) B
                replace D2 := D2.below (by omega) B
                replace VA := VA.below (by omega) B
                clear VN
                have VN := VN2
                clear VN2 B hc hf
                refine ⟨VA, ?_⟩
                refine tree_nil ?_
                try go_simp
                have VN1 := VN.1
                clear VN VA
                have hbw : bo ≤ UC.heap.size := hbo ▸ BB.size
                have KX := (KOH.out.below BB).more hbw
                obtain ⟨j0, _, _, _⟩ := id D
                go_wp2_with fail
                have BBo := BB
                clear BB
                have BB := Below.refl UC.heap.size UC
                have k_j0 := cell_regrown j0
                refine wp_region_quiet_below (by kernel_rfl) (by kernel_rfl) ?_
                repeat (first | (go_big_quiet_want; refine quiet_iload _ _ rfl imgT (fun W hW => IAt.on D (below_regrown' hW)) rfl ?_; go_simp; go_big_quiet_on) | (go_big_quiet_want; refine quiet_iload _ _ rfl imgT (fun W hW => IAt.on D2 (below_regrown' hW)) rfl ?_; go_simp; go_big_quiet_on) | (go_big_quiet_want; refine quiet_vload _ _ rfl vecT (fun W hW => VecAt.on VN1 (below_regrown' hW)) rfl ?_; go_simp; go_big_quiet_on) | go_big_quiet_step ((first | (go_at_call 21; with_reducible exact Calls.regrown_of (CO1.out _ (KX.on (below_regrown _ _ _)))) | (go_at_call 23; with_reducible exact Calls.regrown_of (CQ1.out _)))) | quiet_step ((first | (go_at_call 21; with_reducible exact Calls.regrown_of (CO1.out _ (KX.on (below_regrown _ _ _)))) | (go_at_call 23; with_reducible exact Calls.regrown_of (CQ1.out _)))))
                refine wpQuiet_nil ?_
                intro W hw'
                have B := below_regrown' hw'
                clear hw' k_j0
                replace BB := bon BB B
                replace j0 := cell_below B j0
                replace D := IAt.on D B
                replace D2 := IAt.on D2 B
                replace VN1 := VecAt.on VN1 B
                have BB1 := BBo.trans (BB.mono hbw)
                clear BBo BB
                have BB := BB1
                clear BB1 hbw
                go_wp2
                go_roundw
                case rel => exact ⟨X + 1, by omega, by go_num, D, D2, BB⟩
                case measure => simp [intOf]; omega
        · go_wp2
          go_roundw
          case rel => exact ⟨Y + 1, by omega, by go_num, D, D2, BB⟩
          case measure => simp [intOf]; omega
    · go_wp2_with (go_at_call 9; (with_reducible refine (CE.out _).mono ?_); rintro _ W9 ⟨rfl, B⟩)
      go_ret
      exact ⟨rfl, by rw [← hsz]; exact (bon HBB.out (by rw [hbo]; exact BB)).trans (B.mono (by have h1 := HBB.out.size; have h2 := BB.size; omega))⟩

end Go.Proofs.Ytcjlgfadjedgbaa
