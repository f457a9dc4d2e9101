/- Reduce of package mipmap. -/
import Derived.Test.YtcjlgfadjedgbaaL7
import Derived.Test.YtcjlgfadjedgbaaImgs
namespace Go.Proofs.Ytcjlgfadjedgbaa
open Go.RowKit Go.Sort Go.ChangeShapes Go.WideShapes

theorem bbBi : (Try.prog.info? 5).map (fun i => (i.zero, i.size, i.bytes)) = some (some (.int .u8 0), 1, 1) := by kernel_rfl

theorem avg_b (f wd ht : Int) (A : Option Addr) (n c : Nat) (l : List Int) (X Y : Nat) (w : World) (R : Rd w w.heap.size .u8 A n l) (hc : n ≤ c) (hw : 1 ≤ wd ∧ wd ≤ 64) (hh : 1 ≤ ht ∧ ht ≤ 64) (hx : X ≤ 32) (hy : Y ≤ 32) :
    Calls Try.prog 39 #[.agg #[.int .i64 f, .int .i64 wd, .int .i64 ht, .slice A n c], .int .i64 (2 * (X : Int)), .int .i64 (2 * (Y : Int))] w (GivesV w (avg ⟨f, wd, ht, l⟩ X Y)) :=
  average_b f wd ht A n c l (2 * (X : Int)) (2 * (Y : Int)) w R hc hw hh (by omega) (by omega)

set_option maxRecDepth 100000 in
set_option maxHeartbeats 4000000 in
theorem preduce_b (f wd ht : Int) (A : Option Addr) (n c : Nat) (l : List Int) (w : World) (R : Rd w w.heap.size .u8 A n l) (hc : n ≤ c) (hn : n ≤ 140737488351232) :
    Calls Try.prog 14 #[.agg #[.int .i64 f, .int .i64 wd, .int .i64 ht, .slice A n c]] w (GivesIO w 5 (Im.mk f wd ht l).red) := by
  have E0 := IBox.made w f wd ht A n c 25
  have b0 := box_below w #[.int .i64 f, .int .i64 wd, .int .i64 ht, .slice A n c] 25
  have z1 : (w.alloc (.cells #[.int .i64 f, .int .i64 wd, .int .i64 ht, .slice A n c] 25)).heap.size = w.heap.size + 1 := by simp
  have E2 := IBox.made (w.alloc (.cells #[.int .i64 f, .int .i64 wd, .int .i64 ht, .slice A n c] 25)) 0 0 0 none 0 0 25
  have b2 := box_below (w.alloc (.cells #[.int .i64 f, .int .i64 wd, .int .i64 ht, .slice A n c] 25)) #[.int .i64 0, .int .i64 0, .int .i64 0, .slice none 0 0] 25
  have D0 := (E0.on b2).1
  have BB := bon b0 b2
  rw [z1] at E2
  have HR := Lib.hid R
  have cv := fun W => pvalid_b f wd ht A n c l W R.len
  have cl := fun W => levels_b wd ht W
  have CC := Lib.hid (fun W R => pclone_b f wd ht A n c l W R hn)
  unfold GivesIO at CC ⊢
  simp only at CC
  clear E0 b0 b2 z1
  by_cases hok : (Im.mk f wd ht l).ok ∧ ¬ (wd = 1 ∧ ht = 1)
  · obtain ⟨h1, h2⟩ := hok
    rw [red_yes h1 h2]
    rw [decide_eq_true h1] at cv
    obtain ⟨hz, hw, hh, hlen⟩ := h1
    simp only at hz hw hh hlen ⊢
    have hsw := hfs_side (n := wd) hw 1
    have hsh := hfs_side (n := ht) hh 1
    have hsw32 : hfs wd 1 ≤ 32 := by show (if wd / 2 < 1 then 1 else wd / 2) ≤ 32; split <;> omega
    have hsh32 : hfs ht 1 ≤ 32 := by show (if ht / 2 < 1 then 1 else ht / 2) ≤ 32; split <;> omega
    have hlv : nlv wd ht ≠ 1 := fun e => h2 ((nlv_one hw hh).1 e)
    have hlp := nlv_pos hw hh
    have hls : lsz wd ht 1 = (hfs wd 1, hfs ht 1) := by unfold lsz; rw [if_pos ⟨by omega, by omega⟩]; rfl
    have cs := fun W => levelSize_b wd ht 1 W
    rw [hls] at cs
    unfold GivesII at cs
    simp only at cs
    have hl7 := nlv_le wd ht
    have ct := fun W => tsize_b f W
    have ca := fun X Y W R h1 h2 => avg_b f wd ht A n c l X Y W R hc hw hh h1 h2
    have ce := fun v0 v1 v2 v3 W => tencode_b f v0 v1 v2 v3 W
    have hs8 := nsz_le f
    obtain ⟨W, hW⟩ : ∃ W : Nat, hfs wd 1 = W := ⟨(hfs wd 1).toNat, by have := hsw.1; omega⟩
    obtain ⟨H, hH⟩ : ∃ H : Nat, hfs ht 1 = H := ⟨(hfs ht 1).toNat, by have := hsh.1; omega⟩
    rw [hW] at hsw32 cs ⊢
    rw [hH] at hsh32 cs ⊢
    rw [Int.toNat_natCast, Int.toNat_natCast]
    have hrow := fun Y X (h : X < W) => rpre_row (m := Im.mk f wd ht l) (W := W) (x := X) (y := Y) h
    have hrlen := fun k => rpre_len (Im.mk f wd ht l) W k
    have hr0 : rpre (Im.mk f wd ht l) W 0 = [] := rfl
    have htx : ∀ X Y : Nat, rtx (Im.mk f wd ht l) X Y = enc f (avg (Im.mk f wd ht l) X Y 0) (avg (Im.mk f wd ht l) X Y 1) (avg (Im.mk f wd ht l) X Y 2) (avg (Im.mk f wd ht l) X Y 3) := fun _ _ => rfl
    have hel := fun X Y : Int => rtx_len (Im.mk f wd ht l) X Y
    simp only at hrlen hel
    have hHW : H * W ≤ 32 * 32 := Nat.mul_le_mul (by omega) (by omega)
    obtain ⟨P, hP⟩ : ∃ P, rpre (Im.mk f wd ht l) W = P := ⟨_, rfl⟩
    obtain ⟨AV, hAV⟩ : ∃ AV : Int → Int → Nat → Int, avg (Im.mk f wd ht l) = AV := ⟨_, rfl⟩
    obtain ⟨TX, hTX⟩ : ∃ TX : Int → Int → List Int, rtx (Im.mk f wd ht l) = TX := ⟨_, rfl⟩
    rw [hP] at hrow hrlen hr0 ⊢
    rw [hAV] at ca htx
    rw [hTX] at hrow htx hel
    obtain ⟨s, hs⟩ : ∃ s, nsz f = s := ⟨_, rfl⟩
    rw [hs] at ct hrlen hel hs8 hz
    have hL1 : (nlv wd ht : Int) ≠ 1 := by omega
    obtain ⟨L, hL⟩ : ∃ L, nlv wd ht = L := ⟨_, rfl⟩
    rw [hL] at cl hL1 hl7
    have t1 : ((L : Int) == 1) = false := by simp; omega
    have g1 : IntKind.i64.wrap ((W : Int) * (H : Int)) = ((H * W : Nat) : Int) := by rw [Int.mul_comm, ← Int.natCast_mul]; exact IntWalk.i64_in _ (by omega)
    obtain ⟨p, hp⟩ : ∃ p, H * W = p := ⟨_, rfl⟩
    rw [hp] at g1 hHW ⊢
    have hps : p * s ≤ 1024 * 8 := Nat.mul_le_mul (by omega) hs8
    have g2 : IntKind.i64.wrap ((p : Int) * (s : Int)) = ((p * s : Nat) : Int) := by rw [← Int.natCast_mul]; exact IntWalk.i64_in _ (by omega)
    obtain ⟨q, hq⟩ : ∃ q, p * s = q := ⟨_, rfl⟩
    rw [hq] at g2 hps
    have CV := Lib.hid cv
    have CL := Lib.hid cl
    have CS := Lib.hid cs
    have CT := Lib.hid ct
    have CA := Lib.hid ca
    have CE := Lib.hid ce
    have HROW := Lib.hid hrow
    have HRL := Lib.hid hrlen
    have HR0 := Lib.hid hr0
    have HTX := Lib.hid htx
    have HEL := Lib.hid hel
    have HP := Lib.hid hp
    obtain ⟨i0, hi0⟩ : ∃ i, Try.prog.info? 5 = some i ∧ i.zero = some (.int .u8 0) ∧ i.size = 1 ∧ i.bytes = 1 := eB.2
    clear cv cl cs ct ca ce hrow hrlen hr0 htx hel hP hAV hTX hs hp hq hL hlv hlp hls hsw hsh hW hH hlen h2 R
    obtain ⟨i0a, i0b, i0c, i0d⟩ := hi0
    have I0 := Lib.hid (And.intro i0a (And.intro i0b (And.intro i0c i0d)))
    clear i0a i0b i0c i0d
    obtain ⟨j0, j1, j2, j3⟩ := id D0
    go_enter Try.func14, Try.ntmps14
    go_wp2_with (first
      | (refine wpList_iload rfl _ _ rfl imgT D0 rfl ?_)
      | (go_at_call 34; (with_reducible refine (CV.out _).mono ?_); rintro _ V1 ⟨rfl, B⟩; clear j0 j1 j2 j3; replace D0 := D0.on B; replace E2 := E2.on B; replace BB := bon BB B; clear B; obtain ⟨j0, j1, j2, j3⟩ := id D0)
      | (go_at_call 18; (with_reducible refine (CL.out _).mono ?_); rintro _ V2 ⟨rfl, B⟩; clear j0 j1 j2 j3; replace D0 := D0.on B; replace E2 := E2.on B; replace BB := bon BB B; clear B; obtain ⟨j0, j1, j2, j3⟩ := id D0)
      | (go_at_call 16; (with_reducible refine (CS.out _).mono ?_); rintro _ V3 ⟨rfl, B⟩; clear j0 j1 j2 j3; replace D0 := D0.on B; replace E2 := E2.on B; replace BB := bon BB B; clear B; obtain ⟨j0, j1, j2, j3⟩ := id D0)
      | (go_at_call 37; (with_reducible refine (CT.out _).mono ?_); rintro _ V4 ⟨rfl, B⟩; clear j0 j1 j2 j3; replace D0 := D0.on B; replace E2 := E2.on B; replace BB := bon BB B; clear B; obtain ⟨j0, j1, j2, j3⟩ := id D0)
      | (refine wpList_make_own _ rfl _ _ _ rfl V4.heap.size 5 i0 (.int .u8 0) 1 Try.underlying23 I0.out.1 I0.out.2.1 I0.out.2.2.1 .i64 .i64 _ q rfl rfl rfl (by rw [I0.out.2.2.2]; omega) (by simp only [maxLen]; omega) (Nat.le_refl _) ?_; intro V5 own5 gr5))
    have B5 : Below V4.heap.size V4 V5 := (Below.refl _ _).grown gr5 (Nat.le_refl _) (fun g hg => by cases hg)
    have O5 : Own V5 V4.heap.size 5 .u8 (some ⟨V4.heap.size, 0, none⟩) 0 q [] := ⟨by simpa using own5, by simp, B5.size⟩
    clear own5 gr5 j0 j1 j2 j3 CV CL CS CT g1 g2
    go_loopw [5, 38] (fun t i wr => ∃ (Y m d : Nat) (A9 : Option Addr), Y ≤ H ∧ i = .int .i64 Y ∧ t = .slice A9 m d ∧ Own wr V4.heap.size 5 .u8 A9 m d (P (Y * W)) ∧ Below V4.heap.size V4 wr) (fun _ i _ => H - (intOf i).toNat)
    case atStart => exact ⟨0, 0, q, _, by omega, rfl, rfl, by rw [Nat.zero_mul, HR0.out]; exact O5, B5⟩
    case round =>
      clear O5 B5
      obtain ⟨Y, m, d, A9, hY, rfl, rfl, own, BR⟩ := hrel
      have OWN := Lib.hid own
      clear own
      by_cases hYH : Y < H
      · go_wp2
        go_loopw [5, 42] (fun t i wq => ∃ (X m d : Nat) (A9 : Option Addr), X ≤ W ∧ i = .int .i64 X ∧ t = .slice A9 m d ∧ Own wq V4.heap.size 5 .u8 A9 m d (P (Y * W + X)) ∧ Below V4.heap.size V4 wq) (fun _ i _ => W - (intOf i).toNat)
        case atStart => exact ⟨0, m, d, A9, by omega, rfl, rfl, by rw [Nat.add_zero]; exact OWN.out, BR⟩
        case round =>
          clear OWN BR
          obtain ⟨X, m, d, A9, hX, rfl, rfl, own, BR⟩ := hrel
          have hm := own.len
          rw [HRL.out] at hm
          have OWN := Lib.hid own
          clear own
          by_cases hXW : X < W
          · have DX := D0.on BR
            have KX := ((HR.out.below BB).more BB.size).on BR
            have gX : IntKind.i64.wrap (2 * (X : Int)) = 2 * (X : Int) := IntWalk.i64_in _ (by omega)
            have gY : IntKind.i64.wrap (2 * (Y : Int)) = 2 * (Y : Int) := IntWalk.i64_in _ (by omega)
            have hYX : Y * W + X + 1 ≤ p := by
              have h1 : (Y + 1) * W ≤ H * W := Nat.mul_le_mul_right _ hYH
              rw [Nat.add_mul, Nat.one_mul] at h1
              have := HP.out
              omega
            have hms : m + s ≤ 8192 := by
              have h1 : (Y * W + X + 1) * s ≤ p * s := Nat.mul_le_mul_right _ hYX
              rw [Nat.add_mul, Nat.one_mul] at h1
              have h2 : p * s ≤ 1024 * 8 := Nat.mul_le_mul (by omega) hs8
              omega
            have HO := Lib.hid (HROW.out Y X hXW)
            have hbase := OWN.out.base_le
            go_wp2_with fail
            refine wp_region_treeC (fun Wd => IAt Wd w.heap.size f wd ht A n c) (.read 0 (.read 1 (.read 2 (.read 3 (.read 4 (.read 5 (.read 6 (.read 7 (.fork1 8 (.fork1 9 (.fork1 10 (.read 11 .nil)))))))))))) (by kernel_rfl) (by kernel_rfl) (fun Wd hB => DX.on hB) ?_
            intro U0 B0
            replace DX := DX.on B0
            replace KX := KX.on B0
            have O0 := OWN.out.on B0
            replace BR := bon BR B0
            clear B0
            refine tree_read rfl ?_
            refine wpQuiet_step (fun K hK => ?_)
            rw [if_pos (by rfl)]
            first | refine quiet_move _ rfl ?_ | refine quiet_assign _ rfl ?_
            go_simp
            refine hK _ ?_
            clear hK K
            refine wpQuiet_nil ?_
            refine tree_read rfl ?_
            refine wpQuiet_step (fun K hK => ?_)
            rw [if_pos (by rfl)]
            refine quiet_val (.pointer (some ⟨w.heap.size, 0, none⟩)) (fun W hW => by simp [execOp, go_sem]) ?_
            go_simp
            refine hK _ ?_
            clear hK K
            refine wpQuiet_nil ?_
            refine tree_read rfl ?_
            refine wpQuiet_step (fun K hK => ?_)
            rw [if_pos (by rfl)]
            refine quiet_val (.int .i64 f) (fun W hW => by have h0 := hW.1; simp [execOp, go_sem, h0]) ?_
            go_simp
            refine hK _ ?_
            clear hK K
            refine wpQuiet_nil ?_
            refine tree_read rfl ?_
            refine wpQuiet_step (fun K hK => ?_)
            rw [if_pos (by rfl)]
            refine quiet_iload _ _ rfl imgT (fun W hW => hW) rfl ?_
            go_simp
            refine hK _ ?_
            clear hK K
            refine wpQuiet_nil ?_
            refine tree_read rfl ?_
            refine wpQuiet_step (fun K hK => ?_)
            rw [if_pos (by rfl)]
            first | refine quiet_move _ rfl ?_ | refine quiet_assign _ rfl ?_
            go_simp
            refine hK _ ?_
            clear hK K
            refine wpQuiet_nil ?_
            refine tree_read rfl ?_
            refine wpQuiet_step (fun K hK => ?_)
            rw [if_pos (by rfl)]
            refine quiet_val (.int .i64 (2 * (X : Int))) (fun W hW => by simp [execOp, go_sem, gX]) ?_
            go_simp
            refine hK _ ?_
            clear hK K
            refine wpQuiet_nil ?_
            refine tree_read rfl ?_
            refine wpQuiet_step (fun K hK => ?_)
            rw [if_pos (by rfl)]
            first | refine quiet_move _ rfl ?_ | refine quiet_assign _ rfl ?_
            go_simp
            refine hK _ ?_
            clear hK K
            refine wpQuiet_nil ?_
            refine tree_read rfl ?_
            refine wpQuiet_step (fun K hK => ?_)
            rw [if_pos (by rfl)]
            refine quiet_val (.int .i64 (2 * (Y : Int))) (fun W hW => by simp [execOp, go_sem, gY]) ?_
            go_simp
            refine hK _ ?_
            clear hK K
            refine wpQuiet_nil ?_
            refine tree_one rfl ?_
            go_wp2_with (go_at_call 39; (refine (CA.out X Y _ KX (by omega) (by omega)).mono ?_); rintro _ U1 ⟨rfl, B⟩; replace DX := DX.on B; replace O0 := O0.on B; replace BR := bon BR B; clear B KX)
            refine ⟨DX, ?_⟩
            refine tree_one rfl ?_
            go_wp2_with (go_at_call 38; (refine (CE.out _ _ _ _ _).mono ?_); rintro _ U2 ⟨A7, n7, c7, rfl, hc7, K7, B⟩; replace DX := DX.on B; replace O0 := O0.on B; replace BR := bon BR B; clear B)
            rw [← HTX.out] at K7
            have hn7 : n7 = s := by rw [← K7.len, HEL.out]
            refine ⟨DX, ?_⟩
            refine tree_one rfl ?_
            go_wp2_with (refine wpList_app _ rfl _ _ _ rfl eB O0 rfl K7 rfl (by simp only [maxLen]; omega) (by omega) ?_; intro A8 n8 c8 U3 own8 B)
            have hlt0 : w.heap.size < V4.heap.size := block_lt_of_cell D0.1
            refine ⟨DX.below hlt0 B, ?_⟩
            rw [← HO.out] at own8
            replace BR := BR.trans B
            clear B K7 O0
            have O8 := Lib.hid own8
            clear own8
            refine tree_read rfl ?_
            refine wpQuiet_step (fun K hK => ?_)
            rw [if_pos (by rfl)]
            first | refine quiet_move _ rfl ?_ | refine quiet_assign _ rfl ?_
            go_simp
            refine hK _ ?_
            clear hK K
            refine wpQuiet_nil ?_
            refine tree_nil ?_
            go_wp2
            go_roundw
            case rel => exact ⟨X + 1, n8, c8, A8, by omega, by go_num, rfl, by rw [← Nat.add_assoc]; exact O8.out, BR⟩
            case measure => simp [intOf]; omega
          · obtain rfl : X = W := by omega
            go_wp2
            go_roundw
            case rel => exact ⟨Y + 1, m, d, A9, by omega, by go_num, rfl, by rw [Nat.add_mul, Nat.one_mul]; exact OWN.out, BR⟩
            case measure => simp [intOf]; omega
      · obtain rfl : Y = H := by omega
        obtain ⟨j0, j1, j2, j3⟩ := D0.on BR
        have E3 := E2.on BR
        have BX := bon BB BR
        rw [HP.out] at OWN
        go_wp2_with (refine wpList_iset rfl _ _ _ rfl rfl rfl E3 (by kernel_rfl) ?_; intro V6 B6 E6 hg hz6)
        obtain ⟨⟨k0, k1, k2, k3⟩, _⟩ := E6
        have hlt1 : w.heap.size + 1 < V4.heap.size := E2.lt
        have O6 := OWN.out.past hg hlt1
        exact bodyPost_ret (v := .agg #[.int .i64 f, .int .i64 W, .int .i64 Y, .slice A9 m d]) (by simp [results, Try.results14, go_sem, *]) rfl ⟨A9, m, d, rfl, O6.since (by omega), BX.trans (B6.mono (by omega))⟩
  · rw [red_no hok]
    simp only
    by_cases hv : (Im.mk f wd ht l).ok
    · have h1 : wd = 1 ∧ ht = 1 := Classical.not_not.1 fun k => hok ⟨hv, k⟩
      obtain ⟨rfl, rfl⟩ := h1
      rw [decide_eq_true hv] at cv
      rw [show nlv 1 1 = 1 by decide +kernel] at cl
      have CV := Lib.hid cv
      have CL := Lib.hid cl
      have K0 := R.on BB
      clear cv cl hok hv R
      obtain ⟨j0, j1, j2, j3⟩ := id D0
      go_enter Try.func14, Try.ntmps14
      go_wp2_with (first
        | (refine wpList_iload rfl _ _ rfl imgT D0 rfl ?_)
        | (go_at_call 34; (with_reducible refine (CV.out _).mono ?_); rintro _ V1 ⟨rfl, B⟩; clear j0 j1 j2 j3; replace D0 := D0.on B; replace E2 := E2.on B; replace K0 := K0.on B; replace BB := bon BB B; clear B; obtain ⟨j0, j1, j2, j3⟩ := id D0)
        | (go_at_call 18; (with_reducible refine (CL.out _).mono ?_); rintro _ V2 ⟨rfl, B⟩; clear j0 j1 j2 j3; replace D0 := D0.on B; replace E2 := E2.on B; replace K0 := K0.on B; replace BB := bon BB B; clear B; obtain ⟨j0, j1, j2, j3⟩ := id D0)
        | (go_at_call 35; (with_reducible refine (CC.out _ K0).mono ?_); rintro _ V3 ⟨A3, n3, c3, rfl, own3, B⟩; clear j0 j1 j2 j3; have hE := E2.lt; have hbs := BB.size; replace E2 := E2.on B; replace BB := bon BB B; clear B)
        | (refine wpList_iset rfl _ _ _ rfl rfl rfl E2 (by kernel_rfl) ?_; intro V6 B6 E6 hg hz6))
      obtain ⟨⟨k0, k1, k2, k3⟩, _⟩ := E6
      have O6 := own3.past hg hE
      exact bodyPost_ret (v := .agg #[.int .i64 f, .int .i64 1, .int .i64 1, .slice A3 n3 c3]) (by simp [results, Try.results14, go_sem, *]) rfl ⟨A3, n3, c3, rfl, O6.since hbs, BB.trans (B6.mono (by omega))⟩
    · rw [decide_eq_false hv] at cv
      have CV := Lib.hid cv
      have K0 := R.on BB
      clear cv cl hok hv R
      go_enter Try.func14, Try.ntmps14
      go_wp2_with (first
        | (refine wpList_iload rfl _ _ rfl imgT D0 rfl ?_)
        | (go_at_call 34; (with_reducible refine (CV.out _).mono ?_); rintro _ V1 ⟨rfl, B⟩; replace D0 := D0.on B; replace E2 := E2.on B; replace K0 := K0.on B; replace BB := bon BB B; clear B)
        | (go_at_call 35; (with_reducible refine (CC.out _ K0).mono ?_); rintro _ V3 ⟨A3, n3, c3, rfl, own3, B⟩; have hE := E2.lt; have hbs := BB.size; replace E2 := E2.on B; replace BB := bon BB B; clear B)
        | (refine wpList_iset rfl _ _ _ rfl rfl rfl E2 (by kernel_rfl) ?_; intro V6 B6 E6 hg hz6))
      obtain ⟨⟨k0, k1, k2, k3⟩, _⟩ := E6
      have O6 := own3.past hg hE
      exact bodyPost_ret (v := .agg #[.int .i64 f, .int .i64 wd, .int .i64 ht, .slice A3 n3 c3]) (by simp [results, Try.results14, go_sem, *]) rfl ⟨A3, n3, c3, rfl, O6.since hbs, BB.trans (B6.mono (by omega))⟩

end Go.Proofs.Ytcjlgfadjedgbaa
