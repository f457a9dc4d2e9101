/- The walk of SamplerConstant. -/
import Derived.Test.YtoipmldbjciinaaS17
import Derived.Test.YtoipmldbjciinaaS15
import Derived.Test.YtoipmldbjciinaaOpenS
import Derived.Test.YtoipmldbjciinaaMake
import Derived.Test.YtoipmldbjciinaaImgs
namespace Go.Proofs.Ytoipmldbjciinaa
open Go.RowKit Go.Sort Go.ChangeShapes Go.WideShapes
set_option linter.unusedVariables false

theorem elIs : ElemI Try.prog 39 45 := elemI_of Try.underlying39 (by kernel_rfl)

theorem iU8 : (Try.prog.info? 5).map (fun i => (i.zero, i.size, i.bytes)) = some (some (.int .u8 0), 1, 1) := by kernel_rfl

theorem OwnI.nil0 (w : World) (e : TypeId) (base : Nat) (h : base ≤ w.heap.size) : OwnI w base e none 0 0 [] := ⟨World.ownsRow_nil _ _ _ _, h, rfl, by simp, by simp⟩

theorem IAt.past {W V : World} {b b' n c : Nat} {f w h : Int} {A : Option Addr} (k : IAt W b f w h A n c) (hg : W.grownBy V (some b')) (hne : b ≠ b') : IAt V b f w h A n c :=
  have q : some b ≠ some b' := fun e => hne (by injection e)
  ⟨hg.cell k.1 q, hg.cell k.2.1 q, hg.cell k.2.2.1 q, hg.cell k.2.2.2 q⟩

theorem cw_args (w : World) (s : Nat → Int) (u v k l : Int) (t a : TypeId) :
    Below w.heap.size w ((w.alloc (.cells (smps s) t)).alloc (.cells #[.int .i64 u, .int .i64 v, .int .i64 k, .int .i64 l] a)) ∧ (∀ i, i < 12 → ((w.alloc (.cells (smps s) t)).alloc (.cells #[.int .i64 u, .int .i64 v, .int .i64 k, .int .i64 l] a)).cell? ⟨w.heap.size, i, none⟩ = some (.int .i64 (s i))) ∧
      ((w.alloc (.cells (smps s) t)).alloc (.cells #[.int .i64 u, .int .i64 v, .int .i64 k, .int .i64 l] a)).cell? ⟨w.heap.size + 1, 0, none⟩ = some (.int .i64 u) ∧ ((w.alloc (.cells (smps s) t)).alloc (.cells #[.int .i64 u, .int .i64 v, .int .i64 k, .int .i64 l] a)).cell? ⟨w.heap.size + 1, 1, none⟩ = some (.int .i64 v) ∧
      ((w.alloc (.cells (smps s) t)).alloc (.cells #[.int .i64 u, .int .i64 v, .int .i64 k, .int .i64 l] a)).cell? ⟨w.heap.size + 1, 3, none⟩ = some (.int .i64 l) := by
  have S0 := smp_box w s t
  have b0 := box_below w (smps s) t
  obtain ⟨p0, p1, p2, p3, B1⟩ := box4 (w.alloc (.cells (smps s) t)) (.int .i64 u) (.int .i64 v) (.int .i64 k) (.int .i64 l) a
  have z : (w.alloc (.cells (smps s) t)).heap.size = w.heap.size + 1 := by simp
  rw [z] at p0 p1 p3
  exact ⟨bon b0 B1, smp_below B1 S0, p0, p1, p3⟩

set_option maxRecDepth 100000 in
set_option maxHeartbeats 2000000 in
theorem const_out (a : Int) (s : Nat → Int) (u v k l : Int) (w : World) (h : ¬ (1 ≤ a ∧ a ≤ 7)) :
    Calls Try.prog 4 #[.int .i64 a, .agg (smps s), .agg #[.int .i64 u, .int .i64 v, .int .i64 k, .int .i64 l]] w fun e w' => e = .returned (.bool true) ∧ Below w.heap.size w w' := by
  obtain ⟨BB, S0, p0, p1, p3⟩ := cw_args w s u v k l 27 38
  have CE := Lib.hid (fun W => sexample_b W)
  by_cases h1 : a < 1
  · go_enter Try.func4, Try.ntmps4
    go_wp2_with (go_at_call 14; (with_reducible refine (CE.out _).mono ?_); rintro _ V3 ⟨rfl, B⟩; replace BB := bon BB B)
    go_ret
    exact ⟨rfl, BB⟩
  · have h7 : 7 < a := by omega
    go_enter Try.func4, Try.ntmps4
    go_wp2_with (go_at_call 14; (with_reducible refine (CE.out _).mono ?_); rintro _ V3 ⟨rfl, B⟩; replace BB := bon BB B)
    go_ret
    exact ⟨rfl, BB⟩

set_option maxRecDepth 100000 in
set_option maxHeartbeats 8000000 in
theorem const_in (L : Nat) (s : Nat → Int) (u v k l : Int) (w : World) (h1 : 1 ≤ L) (h7 : L ≤ 7) :
    Calls Try.prog 4 #[.int .i64 (L : Int), .agg (smps s), .agg #[.int .i64 u, .int .i64 v, .int .i64 k, .int .i64 l]] w fun e w' => e = .returned (.bool true) ∧ Below w.heap.size w w' := by
  obtain ⟨BB, S0, p0, p1, p3⟩ := cw_args w s u v k l 27 38
  have z1 : ((w.alloc (.cells (smps s) 27)).alloc (.cells #[.int .i64 u, .int .i64 v, .int .i64 k, .int .i64 l] 38)).heap.size = w.heap.size + 1 + 1 := by simp
  have X4 := XBox.made ((w.alloc (.cells (smps s) 27)).alloc (.cells #[.int .i64 u, .int .i64 v, .int .i64 k, .int .i64 l] 38)) (.slice none 0 0) 41
  have b2 := box_below ((w.alloc (.cells (smps s) 27)).alloc (.cells #[.int .i64 u, .int .i64 v, .int .i64 k, .int .i64 l] 38)) #[.slice none 0 0] 41
  have O4 := OwnI.nil0 (((w.alloc (.cells (smps s) 27)).alloc (.cells #[.int .i64 u, .int .i64 v, .int .i64 k, .int .i64 l] 38)).alloc (.cells #[.slice none 0 0] 41)) 45 (w.heap.size + 3) (by simp)
  rw [z1] at X4
  replace p0 := cell_below b2 p0
  replace p1 := cell_below b2 p1
  replace p3 := cell_below b2 p3
  replace S0 := smp_below b2 S0
  replace BB := bon BB b2
  clear b2 z1
  have CE := Lib.hid (fun W => sexample_b W)
  have OH := Lib.hid O4
  clear O4
  have n1 : ¬ (L : Int) < 1 := by omega
  have n7 : ¬ 7 < (L : Int) := by omega
  go_enter Try.func4, Try.ntmps4
  go_wp2_with fail
  go_loopw [8] (fun i wr => ∃ (j d : Nat) (A9 : Option Addr) (ts : List Tx), j ≤ L ∧ i = .int .i64 (j : Int) ∧ OwnI wr (w.heap.size + 3) 45 A9 j d ts ∧ Wts L j ts ∧ XBox wr (w.heap.size + 1 + 1) (.slice A9 j d) ∧ (∀ i, i < 12 → wr.cell? ⟨w.heap.size, i, none⟩ = some (.int .i64 (s i))) ∧ wr.cell? ⟨w.heap.size + 1, 0, none⟩ = some (.int .i64 u) ∧ wr.cell? ⟨w.heap.size + 1, 1, none⟩ = some (.int .i64 v) ∧ wr.cell? ⟨w.heap.size + 1, 3, none⟩ = some (.int .i64 l) ∧ Below w.heap.size w wr) (fun i _ => L - (intOf i).toNat)
  case atStart => exact ⟨0, 0, none, [], by omega, rfl, OH.out, Wts.zero L, X4, S0, p0, p1, p3, BB⟩
  case round =>
    clear OH X4 S0 p0 p1 p3 BB
    obtain ⟨j, d, A9, ts, hj, rfl, own, hW, X4, S0, p0, p1, p3, BB⟩ := hrel
    have OWN := Lib.hid own
    have HW := Lib.hid hW
    clear own hW
    by_cases hjL : j < L
    · obtain ⟨e, he⟩ : ∃ e : Nat, (L : Int) - 1 - j = e := ⟨L - 1 - j, by omega⟩
      have he6 : e ≤ 6 := by omega
      obtain ⟨n, hn, hn1, hn64⟩ : ∃ n : Nat, 2 ^ e = n ∧ 1 ≤ n ∧ n ≤ 64 := ⟨2 ^ e, rfl, Nat.one_le_two_pow, by have := Nat.pow_le_pow_right (n := 2) (by omega) he6; omega⟩
      rename World => W0
      obtain ⟨N, hN⟩ : ∃ N, n * n = N := ⟨_, rfl⟩
      have hN2 : N ≤ 4096 := by rw [← hN]; exact Nat.mul_le_mul hn64 hn64
      obtain ⟨M, hM⟩ : ∃ M, 4 * N = M := ⟨_, rfl⟩
      have eN : (n : Int) * n = N := by rw [← Int.natCast_mul, hN]
      have gN : IntKind.i64.wrap ((n : Int) * n) = (N : Int) := by rw [eN]; exact IntWalk.i64_in _ (by omega)
      have gM : IntKind.i64.wrap (4 * (n : Int) * n) = (M : Int) := by rw [Int.mul_assoc, eN, show 4 * (N : Int) = (M : Int) by omega]; exact IntWalk.i64_in _ (by omega)
      have g4 : IntKind.i64.wrap (4 * (n : Int)) = 4 * (n : Int) := IntWalk.i64_in _ (by omega)
      have gs : IntKind.i64.wrap (2 ^ e) = (n : Int) := by rw [show (2 : Int) ^ e = (n : Int) by rw [← hn]; simp]; exact IntWalk.i64_in _ (by omega)
      have hM2 : M ≤ 16384 := by omega
      have HN := Lib.hid hN
      have HM := Lib.hid hM
      have HE := Lib.hid hn
      have HEE := Lib.hid he
      have GN := Lib.hid gN
      clear hN hM hn eN gN
      go_wp2_with (first
        | (refine wpList_makeV _ rfl _ _ _ rfl Try.underlying43 iU8 rfl .i64 .i64 M rfl rfl (by omega) (by simp only [maxLen]; omega) W0.heap.size (Nat.le_refl _) ?_; intro bd W1 own1 B1 hbd)
        | (refine wpList_iset rfl _ _ _ rfl rfl rfl (IBox.made W1 0 0 0 none 0 0 45) (by kernel_rfl) ?_; intro V3 B3 E0 hg3 hz3))
      have bm : Below W1.heap.size W1 V3 := (box_below W1 #[.int .i64 0, .int .i64 0, .int .i64 0, .slice none 0 0] 45).trans B3
      have D := E0.1
      have hlt := (own1.1.lt bd rfl).2
      have OW := Lib.hid (own1.on bm)
      have B := bon B1 bm
      have hsz1 := B1.size
      clear B1 bm B3 E0 hg3 hz3 own1
      obtain ⟨bm, hbm⟩ : ∃ b, W1.heap.size = b := ⟨_, rfl⟩
      rw [hbm] at D hlt hsz1 ⊢
      clear hbm
      have ne : bm ≠ bd := by omega
      have hw0 : W0.heap.size ≤ bd := hbd
      have DZ : Hid (List.replicate M (Value.int .u8 0) = (dk N 0).map (Value.int .u8)) := Lib.hid (by rw [dk_zero, HM.out, List.map_replicate])
      go_loopw [11] (fun i wx => ∃ q : Nat, q ≤ N ∧ i = .int .i64 (q : Int) ∧ OwnV wx W0.heap.size 5 bd M M ((dk N q).map (Value.int .u8)) ∧ IAt wx bm 2 n n (some ⟨bd, 0, none⟩) M M ∧ Below W0.heap.size W0 wx) (fun i _ => N - (intOf i).toNat)
      case atStart => exact ⟨0, by omega, rfl, by rw [← DZ.out]; exact OW.out, D, B⟩
      case round =>
        rename World => wx
        clear OW D B
        obtain ⟨q, hq, rfl, own, D, B⟩ := hrel
        obtain ⟨i0, i1, i2, i3⟩ := id D
        by_cases hqN : q < N
        · obtain ⟨p, hp⟩ : ∃ p, 4 * q = p := ⟨_, rfl⟩
          have hl := own.len
          have hpM : p + 3 < M := by have := HM.out; omega
          obtain ⟨x0, c0⟩ : ∃ x, wx.cell? ⟨bd, p, none⟩ = some x := ⟨_, own.cell (List.getElem?_eq_getElem (by omega))⟩
          have f0 := own.frozen (j := p)
          have own1 := own.set (j := p) (.int .u8 255)
          obtain ⟨x1, c1⟩ : ∃ x, (wx.setCell ⟨bd, p, none⟩ (.int .u8 255)).cell? ⟨bd, p + 1, none⟩ = some x := ⟨_, own1.1.cell (List.getElem?_eq_getElem (by rw [List.length_set]; omega))⟩
          have f1 := own1.1.frozen (j := p + 1)
          have own2 := own1.1.set (j := p + 1) (.int .u8 51)
          obtain ⟨x2, c2⟩ : ∃ x, ((wx.setCell ⟨bd, p, none⟩ (.int .u8 255)).setCell ⟨bd, p + 1, none⟩ (.int .u8 51)).cell? ⟨bd, p + 3, none⟩ = some x := ⟨_, own2.1.cell (List.getElem?_eq_getElem (by rw [List.length_set, List.length_set]; omega))⟩
          have f2 := own2.1.frozen (j := p + 3)
          have own3 := own2.1.set (j := p + 3) (.int .u8 255)
          have D1 := D.past (grownBy_setCell wx bd p (.int .u8 255)) ne
          have D2 := D1.past (grownBy_setCell _ bd (p + 1) (.int .u8 51)) ne
          have D3 := D2.past (grownBy_setCell _ bd (p + 3) (.int .u8 255)) ne
          have OW : Hid (OwnV (((wx.setCell ⟨bd, p, none⟩ (.int .u8 255)).setCell ⟨bd, p + 1, none⟩ (.int .u8 51)).setCell ⟨bd, p + 3, none⟩ (.int .u8 255)) W0.heap.size 5 bd M M ((dk N (q + 1)).map (Value.int .u8))) := Lib.hid (by
            rw [← dk_fill hqN, hp, List.map_set, List.map_set, List.map_set]
            exact own3.1)
          have BX := Lib.hid (((B.trans own1.2).trans own2.2).trans own3.2)
          have HD := Lib.hid D3
          have gp : IntKind.i64.wrap (4 * (q : Int)) = (p : Int) := by rw [show 4 * (q : Int) = (p : Int) by omega]; exact IntWalk.i64_in _ (by omega)
          have gp0 : 4 * (q : Int) = (p : Int) := by omega
          obtain ⟨_, _, _, a3⟩ := D1
          obtain ⟨_, _, _, b3⟩ := D2
          have HP := Lib.hid hp
          have gN := GN.out
          clear own1 own2 own3 own D3 D B hp hl i0 i1 i2 gM g4 gs
          go_wp2
          go_roundw
          case rel => exact ⟨q + 1, by omega, by go_num, OW.out, HD.out, BX.out⟩
          case measure => simp [intOf]; omega
        · obtain rfl : q = N := by omega
          have O6 := own.ints (dk_rng q q)
          rw [dk_full] at O6
          have F6 := TFar.of (f := 2) (wd := n) (ht := n) O6
          have hbase := OWN.out.base_le
          have hrow := OWN.out.1.lt
          have OX := OWN.out.on B
          replace X4 := X4.on B
          replace S0 := smp_below B S0
          replace p0 := cell_below B p0
          replace p1 := cell_below B p1
          replace p3 := cell_below B p3
          replace BB := bon BB B
          have hFF : ∀ g, (some (⟨bd, 0, none⟩ : Addr)) = some g → ∀ r, A9 = some r → g.block ≠ r.block := fun g hg r hr => by
            cases hg
            subst hr
            have h2 := (hrow r.block rfl).2
            simp only
            omega
          have F7 := F6.since hbase
          have FH := Lib.hid F7
          have OXH := Lib.hid OX
          have HFF := Lib.hid hFF
          have t0 : (⟨2, n, n, rpL wtx q⟩ : Im) = wlv (2 ^ (L - 1 - j)) := by
            rw [show L - 1 - j = e by have := HEE.out; omega, HE.out]
            unfold wlv
            rw [HN.out]
          have HT := Lib.hid t0
          clear hFF F6 F7 OX own O6 t0 hrow
          obtain ⟨x0, xf⟩ := id X4
          have gN := GN.out
          clear gM g4 gs
          go_wp2_with (first
            | (refine wpList_iload rfl _ _ rfl imgT D rfl ?_)
            | (refine wpList_app1I _ rfl _ _ _ rfl elIs OXH.out rfl FH.out HFF.out rfl (by simp only [maxLen]; omega) (by omega) ?_; intro A8 c8 U2 own8 B8; clear x0 xf; have X5 := X4.below (by omega) B8; obtain ⟨x0, xf⟩ := id X5))
          have hg2 := grownBy_setCell U2 (w.heap.size + 1 + 1) 0 (.slice A8 (j + 1) c8)
          have O9 := own8.past hg2 (by omega)
          have X9 : XBox (U2.setCell ⟨w.heap.size + 1 + 1, 0, none⟩ (.slice A8 (j + 1) c8)) (w.heap.size + 1 + 1) (.slice A8 (j + 1) c8) := ⟨by simp [go_sem, x0], by simp [go_sem, xf]⟩
          have B9 : Below (w.heap.size + 1 + 1) U2 (U2.setCell ⟨w.heap.size + 1 + 1, 0, none⟩ (.slice A8 (j + 1) c8)) := (Below.refl _ U2).setCell (p := ⟨w.heap.size + 1 + 1, 0, none⟩) (Nat.le_refl _) _
          have BA := (B8.mono (show w.heap.size + 1 + 1 ≤ w.heap.size + 3 by omega)).trans B9
          go_roundw
          case rel => exact ⟨j + 1, c8, A8, _, by omega, by go_num, O9, HW.out.more HT.out, X9, smp_under BA (by omega) S0, (BA.cell (p := ⟨w.heap.size + 1, 0, none⟩) (by simp)).trans p0, (BA.cell (p := ⟨w.heap.size + 1, 1, none⟩) (by simp)).trans p1, (BA.cell (p := ⟨w.heap.size + 1, 3, none⟩) (by simp)).trans p3, BB.trans (BA.mono (by omega))⟩
          case measure => simp [intOf]; omega
    · obtain rfl : j = L := by omega
      have R := OWN.out.rd
      have hn9 : j ≤ 9223372036854775807 := by omega
      have J1 := R
      have cs := fun W R => ssmp_b A9 j d ts s u v l W R hn9
      have cl := fun W R => sslv_b A9 j d ts s u v 0 2 W R hn9
      have cv := fun W => sval_b s W
      unfold GivesV at cs cl
      obtain ⟨x0, xf⟩ := id X4
      by_cases hs : SV s
      · rw [decide_eq_true hs] at cv
        have CV := Lib.hid cv
        by_cases h3 : s 0 ≠ 4 ∧ s 1 ≠ 4
        · have q0 := fun i hi => smv_w HW.out h1 h7 hs h3 u v l i hi
          have q2 := fun i hi => slv_w HW.out h1 h7 hs h3 u v (k := 0) (f := 2) ⟨by omega, by omega⟩ (.inr rfl) i hi
          have e0 := q0 0 (by omega)
          have e1 := q0 1 (by omega)
          have e2 := q0 2 (by omega)
          have e3 := q0 3 (by omega)
          have g0 := q2 0 (by omega)
          have g1 := q2 1 (by omega)
          have g2 := q2 2 (by omega)
          have g3 := q2 3 (by omega)
          rw [wv_0] at e0 g0
          rw [wv_1] at e1 g1
          rw [wv_2] at e2 g2
          rw [wv_3] at e3 g3
          simp only [e0, e1, e2, e3] at cs
          simp only [g0, g1, g2, g3] at cl
          have CS := Lib.hid cs
          have CL := Lib.hid cl
          obtain ⟨t0, t1⟩ : (s 0 == 4) = false ∧ (s 1 == 4) = false := ⟨by simp [h3.1], by simp [h3.2]⟩
          have s0 := S0 0 (by omega)
          have s1 := S0 1 (by omega)
          clear q0 q2 e0 e1 e2 e3 g0 g1 g2 g3 cs cl cv R h3 hs
          go_wp2_with (first
            | ((with_reducible refine sloadN smpT S0 ?_ ?_); focus rfl)
            | (go_at_call 15; (with_reducible refine (CV.out _).mono ?_); rintro _ V4 ⟨rfl, B⟩; (replace BB := bon BB B; replace x0 := cell_below B x0; replace p0 := cell_below B p0; replace p1 := cell_below B p1; replace p3 := cell_below B p3; replace s0 := cell_below B s0; replace s1 := cell_below B s1; replace S0 := smp_below B S0; replace J1 := RdI.on J1 B); replace V9 := VecAt.on V9 B; clear B)
            | ((with_reducible refine storeN ?_); refine wpList_vset rfl _ _ _ rfl 65536 13107 0 65536 rfl rfl (VBox.made _ 0 0 0 0 _) (by kernel_rfl) ?_; intro V2 B2 D3 hD hz; have B : Below wr.heap.size wr V2 := (box_below wr _ _).trans B2; (replace BB := bon BB B; replace x0 := cell_below B x0; replace p0 := cell_below B p0; replace p1 := cell_below B p1; replace p3 := cell_below B p3; replace s0 := cell_below B s0; replace s1 := cell_below B s1; replace S0 := smp_below B S0; replace J1 := RdI.on J1 B); have V9 := D3.1; clear B B2 D3 hD hz))
          have k_x0 := cell_regrown x0
          have k_p0 := cell_regrown p0
          have k_p1 := cell_regrown p1
          have k_p3 := cell_regrown p3
          have k_S0 := smp_regrown S0
          refine wp_region_quiet_below (by kernel_rfl) (by kernel_rfl) ?_
          repeat (first | (go_big_quiet_want; refine quiet_vload _ _ rfl vecT (fun W hW => VecAt.on V9 (below_regrown' hW)) rfl ?_; go_simp; go_big_quiet_on) | (go_big_quiet_want; refine quiet_sload _ _ rfl smpT (fun W hW => smp_class S0 hW) rfl ?_; go_simp; go_big_quiet_on) | (go_big_quiet_want; refine quiet_bload _ _ rfl bordT (fun W hW => smp_class S0 hW) rfl ?_; go_simp; go_big_quiet_on) | go_big_quiet_step ((first | (go_at_call 16; with_reducible exact Calls.regrown_of (CS.out _ (J1.on (below_regrown _ _ _)))) | (go_at_call 17; with_reducible exact Calls.regrown_of (CL.out _ (J1.on (below_regrown _ _ _)))) | (go_at_call 14; with_reducible exact Calls.regrown_of (CE.out _)))) | quiet_step ((first | (go_at_call 16; with_reducible exact Calls.regrown_of (CS.out _ (J1.on (below_regrown _ _ _)))) | (go_at_call 17; with_reducible exact Calls.regrown_of (CL.out _ (J1.on (below_regrown _ _ _)))) | (go_at_call 14; with_reducible exact Calls.regrown_of (CE.out _)))))
          refine wpQuiet_nil ?_
          intro W hw'
          have B := below_regrown' hw'
          clear hw' k_x0 k_p0 k_p1 k_p3 k_S0
          replace BB := bon BB B
          replace x0 := cell_below B x0
          replace p0 := cell_below B p0
          replace p1 := cell_below B p1
          replace p3 := cell_below B p3
          replace S0 := smp_below B S0
          replace J1 := RdI.on J1 B
          replace V9 := VecAt.on V9 B
          go_wp2
          go_ret
          exact ⟨rfl, BB⟩
        · have h4 : (s 0 == 4) = true ∨ ((s 0 == 4) = false ∧ (s 1 == 4) = true) := by
            by_cases k0 : s 0 = 4
            · exact .inl (by simp [k0])
            · by_cases k1 : s 1 = 4
              · exact .inr ⟨by simp [k0], by simp [k1]⟩
              · exact absurd ⟨k0, k1⟩ h3
          have s0 := S0 0 (by omega)
          have s1 := S0 1 (by omega)
          clear cs cl cv R h3 hs
          rcases h4 with t0 | ⟨t0, t1⟩
          all_goals (go_wp2_with (first
            | ((with_reducible refine sloadN smpT S0 ?_ ?_); focus rfl)
            | (go_at_call 15; (with_reducible refine (CV.out _).mono ?_); rintro _ V4 ⟨rfl, B⟩; replace BB := bon BB B; replace s0 := cell_below B s0; replace s1 := cell_below B s1; clear B)
            | (go_at_call 14; (with_reducible refine (CE.out _).mono ?_); rintro _ V3 ⟨rfl, B⟩; replace BB := bon BB B)
            | ((with_reducible refine storeN ?_); refine wpList_vset rfl _ _ _ rfl 65536 13107 0 65536 rfl rfl (VBox.made _ 0 0 0 0 _) (by kernel_rfl) ?_; intro V2 B2 D3 hD hz; have B : Below wr.heap.size wr V2 := (box_below wr _ _).trans B2; replace BB := bon BB B; replace s0 := cell_below B s0; replace s1 := cell_below B s1; replace S0 := smp_below B S0; clear B B2 D3 hD hz)))
          all_goals go_ret
          all_goals exact ⟨rfl, BB⟩
      · rw [decide_eq_false hs] at cv
        have CV := Lib.hid cv
        have e0 := fun i => smv_no (ts := ts) (s := s) (u := u) (v := v) (l := l) (fun q => hs q.2.1) i
        simp only [e0] at cs
        have CS := Lib.hid cs
        clear cs cl cv R hs e0
        go_wp2_with (first
          | ((with_reducible refine sloadN smpT S0 ?_ ?_); focus rfl)
          | (go_at_call 15; (with_reducible refine (CV.out _).mono ?_); rintro _ V4 ⟨rfl, B⟩; replace BB := bon BB B; replace x0 := cell_below B x0; replace p0 := cell_below B p0; replace p1 := cell_below B p1; replace p3 := cell_below B p3; replace S0 := smp_below B S0; replace J1 := RdI.on J1 B; clear B)
          | (go_at_call 16; (with_reducible refine (CS.out _ J1).mono ?_); rintro _ V5 ⟨rfl, B⟩; replace BB := bon BB B)
          | (go_at_call 14; (with_reducible refine (CE.out _).mono ?_); rintro _ V3 ⟨rfl, B⟩; replace BB := bon BB B)
          | ((with_reducible refine storeN ?_); refine wpList_vset rfl _ _ _ rfl 65536 13107 0 65536 rfl rfl (VBox.made _ 0 0 0 0 _) (by kernel_rfl) ?_; intro V2 B2 D3 hD hz; have B : Below wr.heap.size wr V2 := (box_below wr _ _).trans B2; replace BB := bon BB B; replace x0 := cell_below B x0; replace p0 := cell_below B p0; replace p1 := cell_below B p1; replace p3 := cell_below B p3; replace S0 := smp_below B S0; replace J1 := RdI.on J1 B; clear B B2 D3 hD hz))
        go_ret
        exact ⟨rfl, BB⟩

theorem constant_walk (a : Int) (s : Nat → Int) (u v k l : Int) (w : World) :
    Calls Try.prog 4 #[.int .i64 a, .agg (smps s), .agg #[.int .i64 u, .int .i64 v, .int .i64 k, .int .i64 l]] w fun e w' => e = .returned (.bool true) ∧ Below w.heap.size w w' := by
  by_cases h : 1 ≤ a ∧ a ≤ 7
  · obtain ⟨L, rfl⟩ : ∃ L : Nat, a = L := ⟨a.toNat, by omega⟩
    exact const_in L s u v k l w (by omega) (by omega)
  · exact const_out a s u v k l w h

end Go.Proofs.Ytoipmldbjciinaa
