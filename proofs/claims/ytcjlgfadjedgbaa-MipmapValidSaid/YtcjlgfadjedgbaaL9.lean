/- Chain of package mipmap. -/
import Derived.Test.YtcjlgfadjedgbaaL8
namespace Go.Proofs.Ytcjlgfadjedgbaa
open Go.RowKit Go.Sort Go.ChangeShapes Go.WideShapes

theorem elI : ElemI Try.prog 27 25 := elemI_of Try.underlying27 (by kernel_rfl)

/-- A call that returns a texture and an error number. -/
def GivesT (W : World) (m : Im) (x : Ending) (w' : World) : Prop :=
  ∃ A n c ts, x = .returned (.tuple #[.agg #[.slice A n c], .int .i64 (if m.ok then 0 else 2)]) ∧ n ≤ c ∧ RdI w' w'.heap.size A n ts ∧ ts.map Tx.m = (if m.ok then chain m else []) ∧ Below W.heap.size W w'

theorem ok_len {m : Im} (h : m.ok) : m.l.length ≤ 40000 := by
  obtain ⟨h1, ⟨h2, h3⟩, ⟨h4, h5⟩, h6⟩ := h
  have h7 := nsz_le m.f
  obtain ⟨a, ha⟩ : ∃ a : Nat, m.w = a := ⟨m.w.toNat, by omega⟩
  obtain ⟨b, hb⟩ : ∃ b : Nat, m.h = b := ⟨m.h.toNat, by omega⟩
  rw [ha, hb, ← Int.natCast_mul, ← Int.natCast_mul] at h6
  have h8 : m.l.length = a * b * nsz m.f := by omega
  rw [h8]
  have h9 : a * b ≤ 64 * 64 := Nat.mul_le_mul (by omega) (by omega)
  have h10 : a * b * nsz m.f ≤ 64 * 64 * 8 := Nat.mul_le_mul h9 h7
  omega

set_option maxRecDepth 100000 in
set_option maxHeartbeats 4000000 in
theorem pchain_b (f wd ht : Int) (A : Option Addr) (n c : Nat) (l : List Int) (w : World) (R : Rd w w.heap.size .u8 A n l) (hn : n ≤ 140737488351232) :
    Calls Try.prog 10 #[.agg #[.int .i64 f, .int .i64 wd, .int .i64 ht, .slice A n c]] w (GivesT w (Im.mk f wd ht l)) := by
  have D0 := IBox.made w f wd ht A n c 25
  have b0 := box_below w #[.int .i64 f, .int .i64 wd, .int .i64 ht, .slice A n c] 25
  have z1 : (w.alloc (.cells #[.int .i64 f, .int .i64 wd, .int .i64 ht, .slice A n c] 25)).heap.size = w.heap.size + 1 := by simp
  have X2 := XBox.made (w.alloc (.cells #[.int .i64 f, .int .i64 wd, .int .i64 ht, .slice A n c] 25)) (.slice none 0 0) 29
  have b2 := box_below (w.alloc (.cells #[.int .i64 f, .int .i64 wd, .int .i64 ht, .slice A n c] 25)) #[.slice none 0 0] 29
  replace D0 := (D0.on b2).1
  have BB := bon b0 b2
  rw [z1] at X2
  have K0 := R.on BB
  have cv := fun W => pvalid_b f wd ht A n c l W R.len
  have cl := fun W => levels_b wd ht W
  have CC := Lib.hid (fun W R => pclone_b f wd ht A n c l W R hn)
  unfold GivesIO at CC
  unfold GivesT
  simp only at CC
  clear b0 b2 z1 R
  by_cases hok : (Im.mk f wd ht l).ok
  · rw [decide_eq_true hok] at cv
    rw [if_pos hok, if_pos hok]
    have hp := nlv_pos hok.2.1 hok.2.2.1
    have h7 := nlv_le wd ht
    have HC := Lib.hid (fun k => chn_ok hok k)
    have HS : Hid (∀ k, chn (Im.mk f wd ht l) (k + 1) = (chn (Im.mk f wd ht l) k).red) := Lib.hid fun k => rfl
    have H0 : Hid (chn (Im.mk f wd ht l) 0 = Im.mk f wd ht l) := Lib.hid rfl
    have HE : Hid (chain (Im.mk f wd ht l) = (List.range (nlv wd ht)).map (chn (Im.mk f wd ht l))) := Lib.hid rfl
    obtain ⟨M, hM⟩ : ∃ M, chn (Im.mk f wd ht l) = M := ⟨_, rfl⟩
    rw [hM] at HC HS H0 HE
    obtain ⟨C, hC⟩ : ∃ C, chain (Im.mk f wd ht l) = C := ⟨_, rfl⟩
    rw [hC] at HE ⊢
    obtain ⟨L, hL⟩ : ∃ L, nlv wd ht = L := ⟨_, rfl⟩
    rw [hL] at hp h7 HE
    simp only [hL] at cl

    obtain ⟨K, rfl⟩ : ∃ K, L = K + 1 := ⟨L - 1, by omega⟩
    have g1 : IntKind.i64.wrap (((K + 1 : Nat) : Int) - 1) = (K : Int) := by rw [show (((K + 1 : Nat) : Int) - 1) = K by omega]; exact IntWalk.i64_in _ (by omega)
    have CV := Lib.hid cv
    have CL := Lib.hid cl
    clear cv cl hM hC hL hok hn
    obtain ⟨j0, j1, j2, j3⟩ := id D0
    go_enter Try.func10, Try.ntmps10
    go_wp2_with (first
      | (refine wpList_iload rfl _ _ rfl imgT D0 rfl ?_)
      | (go_at_call 34; (with_reducible refine (CV.out _).mono ?_); rintro _ V1 ⟨rfl, B⟩; clear j0 j1 j2 j3; replace D0 := D0.on B; replace X2 := X2.on B; replace K0 := K0.on B; replace BB := bon BB B; clear B; obtain ⟨j0, j1, j2, j3⟩ := id D0)
      | (go_at_call 35; (with_reducible refine (CC.out _ K0).mono ?_); rintro _ V2 ⟨A2, n2, c2, rfl, own2, B⟩; clear j0 j1 j2 j3; have hx := X2.lt; have hb2 := B.size; replace D0 := D0.on B; replace X2 := X2.on B; replace BB := bon BB B; have F2 := TFar.of (f := f) (wd := wd) (ht := ht) own2; have O2 := OwnI.made1 (e := 25) F2 hb2; have bm := box_below V2 #[.int .i64 f, .int .i64 wd, .int .i64 ht, .slice A2 n2 c2] 25; replace D0 := D0.on bm; replace X2 := X2.on bm; replace BB := bon BB bm; clear B K0; obtain ⟨j0, j1, j2, j3⟩ := id D0)
      | (go_at_call 18; (with_reducible refine (CL.out _).mono ?_); rintro _ V3 ⟨rfl, B⟩; clear j0 j1 j2 j3; replace D0 := D0.on B; replace X2 := X2.on B; replace O2 := O2.on B; replace BB := bon BB B; clear B; obtain ⟨j0, j1, j2, j3⟩ := id D0))
    have BV : Below V3.heap.size V3 V3 := Below.refl _ _
    have OH := Lib.hid O2
    clear j0 j1 j2 j3 O2 F2 own2 bm hb2
    go_loopw [4, 19] (fun t i wr => ∃ (Y d : Nat) (A9 : Option Addr) (ts : List Tx), Y ≤ K ∧ i = .int .i64 Y ∧ t = .slice A9 (Y + 1) d ∧ OwnI wr V1.heap.size 25 A9 (Y + 1) d ts ∧ ts.map Tx.m = (List.range (Y + 1)).map M ∧ XBox wr (w.heap.size + 1) (.slice none 0 0) ∧ Below w.heap.size w wr) (fun _ i _ => K - (intOf i).toNat)
    case atStart => exact ⟨0, _, _, _, by omega, rfl, rfl, OH.out, by simp [H0.out], X2, BB⟩
    case round =>
      clear OH BB X2 D0
      obtain ⟨Y, d, A9, ts, hY, rfl, rfl, own, hts, X2, BB⟩ := hrel
      have OWN := Lib.hid own
      clear own
      by_cases hYK : Y < K
      · obtain ⟨b, off, t, hA, hb, TA, TR, ht'⟩ := OWN.out.rd.at_ (j := Y) (by omega)
        subst hA
        have hmt : t.m = M Y := by
          have h1 : (ts.map Tx.m)[Y]? = some t.m := by rw [List.getElem?_map, ht']; rfl
          rw [hts, List.getElem?_map, List.getElem?_range (by omega)] at h1
          injection h1 with h1
          exact h1.symm
        have hnt : t.n ≤ 140737488351232 := by
          have h1 := ok_len (HC.out Y)
          rw [← hmt, TR.1.len] at h1
          omega
        have hred : t.m.red = M (Y + 1) := by rw [hmt, HS.out]
        have CR := Lib.hid (fun W R => preduce_b t.m.f t.m.w t.m.h t.A t.n t.c t.m.l W R TR.2 hnt)
        rw [show Im.mk t.m.f t.m.w t.m.h t.m.l = t.m from rfl, hred] at CR
        unfold GivesIO at CR
        have HTS := Lib.hid hts
        have TRH := Lib.hid TR.1
        clear hts hmt hnt hred ht' TR
        go_wp2_with (first
          | (refine wpList_tload rfl _ _ rfl imgType TA rfl ?_)
          | (go_at_call 14; (with_reducible refine (CR.out _ TRH.out).mono ?_); rintro _ U1 ⟨A7, n7, c7, rfl, own7, B⟩; have hbl := OWN.out.base_le; have hbb := OWN.out.1.lt; have O7 := OWN.out.on B; have F7 := TFar.of (f := (M (Y + 1)).f) (wd := (M (Y + 1)).w) (ht := (M (Y + 1)).h) own7; replace X2 := X2.on B; replace BB := bon BB B; clear B)
          | (refine wpList_app1I _ rfl _ _ _ rfl elI O7 rfl (F7.since hbl) (fun g hg r hr => by subst hg; cases hr; have h1 := (own7.1.lt _ rfl).1; have h2 := (hbb _ rfl).2; simp only at h1 h2 ⊢; omega) rfl (by simp only [maxLen]; omega) (by omega) ?_; intro A8 c8 U2 own8 B8))
        replace X2 := X2.below hx B8
        replace BB := BB.trans (B8.mono (by omega))
        clear B8 O7 F7 own7
        have O8 := Lib.hid own8
        clear own8
        go_roundw
        case rel => exact ⟨Y + 1, c8, A8, _, by omega, by go_num, rfl, O8.out, by rw [List.map_append, HTS.out, List.range_succ (n := Y + 1), List.map_append]; rfl, X2, BB⟩
        case measure => simp [intOf]; omega
      · obtain rfl : Y = K := by omega
        go_wp2_with (refine wpList_txset rfl _ _ _ rfl rfl rfl X2 (by kernel_rfl) ?_; intro V6 X6 B6 hg)
        have O6 := OWN.out.past hg hx
        obtain ⟨x6, _⟩ := X6
        exact bodyPost_ret (v := .tuple #[.agg #[.slice A9 (Y + 1) d], .int .i64 0]) (by simp [results, Try.results10, go_sem, *]) rfl ⟨A9, Y + 1, d, ts, rfl, O6.room, O6.rd, by rw [hts, HE.out], BB.trans (B6.mono (by omega))⟩
  · rw [decide_eq_false hok] at cv
    rw [if_neg hok, if_neg hok]
    have CV := Lib.hid cv
    clear cv cl hok CC K0 hn
    obtain ⟨j0, j1, j2, j3⟩ := id D0
    go_enter Try.func10, Try.ntmps10
    go_wp2_with (first
      | (refine wpList_iload rfl _ _ rfl imgT D0 rfl ?_)
      | (go_at_call 34; (with_reducible refine (CV.out _).mono ?_); rintro _ V1 ⟨rfl, B⟩; clear j0 j1 j2 j3; replace D0 := D0.on B; replace X2 := X2.on B; replace BB := bon BB B; clear B; obtain ⟨j0, j1, j2, j3⟩ := id D0)
      | (refine wpList_txset rfl _ _ _ rfl rfl rfl X2 (by kernel_rfl) ?_; intro V6 X6 B6 hg))
    obtain ⟨x6, _⟩ := X6
    exact bodyPost_ret (v := .tuple #[.agg #[.slice none 0 0], .int .i64 2]) (by simp [results, Try.results10, go_sem, *]) rfl ⟨none, 0, 0, [], rfl, Nat.le_refl _, RdI.nil _ _ _, rfl, BB.trans (B6.mono (by omega))⟩

end Go.Proofs.Ytcjlgfadjedgbaa
