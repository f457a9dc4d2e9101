/- Valid of textures, of the reference. -/
import Derived.Test.YtoipmldbjciinaaGreatL5
namespace Go.Proofs.YtoipmldbjciinaaGreat
open Go.RowKit Go.Sort Go.ChangeShapes Go.WideShapes

theorem tvK_of {ts : List Tx} : ∀ n, (∀ j, j < n → lok (ts.getD 0 default).m j (ts.getD j default).m = true) → tvK ts n = true := by
  intro n
  induction n with
  | zero => intro _; rfl
  | succ n ih => intro h; rw [tvK, ih (fun j hj => h j (by omega)), h n (by omega)]; rfl

theorem tok_tv {ts : List Tx} (h : tok (ts.map Tx.m)) : tv ts = true := by
  obtain ⟨m0, r, he, hall⟩ := h
  have hlen : 0 < ts.length := by
    cases ts with
    | nil => cases he
    | cons t q => simp
  have hg : ∀ j, j < ts.length → (ts.map Tx.m)[j]? = some (ts.getD j default).m := by
    intro j hj
    rw [List.getElem?_map, List.getElem?_eq_getElem hj, List.getD, List.getElem?_eq_getElem hj]
    rfl
  have h0 : (ts.getD 0 default).m = m0 := by
    have h1 := hg 0 hlen
    rw [he] at h1
    simpa using h1.symm
  unfold tv
  rw [decide_eq_true hlen, Bool.true_and]
  refine tvK_of _ fun j hj => ?_
  obtain ⟨a1, a2, a3, a4, a5⟩ := hall j _ (hg j hj)
  rw [h0]
  unfold lok lsz
  rw [if_pos ⟨by omega, by omega⟩, Int.toNat_natCast]
  exact decide_eq_true ⟨a1, a2, a4, a5⟩

set_option maxRecDepth 100000 in
set_option maxHeartbeats 4000000 in
theorem rtvalidx_b (A : Option Addr) (n c : Nat) (ts : List Tx) (w : World) (R : RdI w w.heap.size A n ts) (hn : n ≤ 9223372036854775807) :
    Calls Tryz.prog 40 #[.agg #[.slice A n c]] w fun e w' => e = .returned (.bool (tv ts)) ∧ Below w.heap.size w w' := by
  obtain ⟨a0, BB⟩ := box1 w (.slice A n c) 24
  have J0 := R.on BB
  rcases Nat.eq_zero_or_pos n with h0 | h0
  · subst h0
    have e : tv ts = false := by unfold tv; rw [R.len]; rfl
    rw [e]
    clear J0 R e
    go_enter Tryz.func40, Tryz.ntmps40
    go_wp2
    have k_a0 := cell_regrown a0
    refine wp_region_quiet_below (by kernel_rfl) (by kernel_rfl) ?_
    repeat (first | go_big_quiet_step ((first | fail)) | quiet_step ((first | fail)))
    refine wpQuiet_nil ?_
    intro W hw'
    have B := below_regrown' hw'
    clear hw' k_a0
    replace BB := bon BB B
    replace a0 := cell_below B a0
    go_wp2
    go_ret
    exact ⟨rfl, BB⟩
  obtain ⟨b, off, t0, hA, hb, TA, TR, ht0⟩ := J0.at_ h0
  subst hA
  rw [Nat.zero_mul, Nat.add_zero] at TA
  have hl0 := R.len
  have hd0 : (ts.getD 0 default).m = t0.m := by rw [List.getD, ht0]; rfl
  have cv := fun W => rivalid_b t0.m.f t0.m.w t0.m.h t0.A t0.n t0.c t0.m.l W TR.1.len
  have cn := fun W => of_q (rlevels_q t0.m.w t0.m.h W)
  have h7 := nlv_le t0.m.w t0.m.h
  have hn0 : ((n : Int) == 0) = false := by simp; omega
  by_cases hok : t0.m.ok
  · rw [decide_eq_true (show (Im.mk t0.m.f t0.m.w t0.m.h t0.m.l).ok from hok)] at cv
    by_cases hl : n ≤ nlv t0.m.w t0.m.h
    · have JJ := Lib.hid J0
      have e1 : tv ts = tvK ts n := by unfold tv; rw [hl0, decide_eq_true h0, Bool.true_and]
      rw [e1]
      have HK : Hid (∀ j, tvK ts (j + 1) = (tvK ts j && lok (ts.getD 0 default).m j (ts.getD j default).m)) := Lib.hid fun j => rfl
      have HN := Lib.hid (fun j => tvK_no (ts := ts) (j := j))
      have hk0 : Hid (tvK ts 0 = true) := Lib.hid rfl
      obtain ⟨E, hE⟩ : ∃ E, tvK ts = E := ⟨_, rfl⟩
      rw [hE] at HK HN hk0 ⊢
      rw [hd0] at HK HN
      obtain ⟨L, hL⟩ : ∃ L, nlv t0.m.w t0.m.h = L := ⟨_, rfl⟩
      rw [hL] at hl
      simp only [hL] at cn
      have hl' : ¬ ((L : Int) < (n : Int)) := by omega
      have hl2 : ¬ L < n := by omega
      have CV := Lib.hid cv
      have CN := Lib.hid cn
      have HT0 := Lib.hid ht0
      clear cv cn hE e1 R J0 hok hl hL h7 ht0 hd0 hl0 TR hb
      obtain ⟨_, e1, e2, _⟩ := id TA
      go_enter Tryz.func40, Tryz.ntmps40
      go_wp2
      have k_a0 := cell_regrown a0
      have k_e1 := cell_regrown e1
      have k_e2 := cell_regrown e2
      refine wp_region_quiet_below (by kernel_rfl) (by kernel_rfl) ?_
      repeat (first | (go_big_quiet_want; refine quiet_tload _ _ rfl imgType (fun W hW => TAt.on TA (below_regrown' hW)) rfl ?_; go_simp; go_big_quiet_on) | go_big_quiet_step ((first | (go_at_call 59; exact Calls.regrown_of (CV.out _)) | (go_at_call 60; exact Calls.regrown_of (CN.out _)))) | quiet_step ((first | (go_at_call 59; exact Calls.regrown_of (CV.out _)) | (go_at_call 60; exact Calls.regrown_of (CN.out _)))))
      refine wpQuiet_nil ?_
      intro W hw'
      have B := below_regrown' hw'
      clear hw' k_a0 k_e1 k_e2
      replace BB := bon BB B
      replace a0 := cell_below B a0
      replace TA := TAt.on TA B
      replace e1 := cell_below B e1
      replace e2 := cell_below B e2
      have J1 := Lib.hid (JJ.out.on B)
      clear JJ B TA e1 e2
      go_wp2
      go_loopw [3] (fun i wr => ∃ j : Nat, j ≤ n ∧ i = .int .i64 j ∧ E j = true ∧ wr.cell? ⟨w.heap.size, 0, none⟩ = some (.slice (some ⟨b, off, none⟩) n c) ∧ RdI wr wr.heap.size (some ⟨b, off, none⟩) n ts ∧ Below w.heap.size w wr) (fun i _ => n - (intOf i).toNat)
      case atStart => exact ⟨0, by omega, rfl, hk0.out, a0, J1.out, BB⟩
      case round =>
        clear a0 J1 BB
        obtain ⟨j, hj, rfl, hEj, a0, RJ, BB⟩ := hrel
        have HE := Lib.hid hEj
        clear hEj
        by_cases hlt : j < n
        · obtain ⟨b1, off1, t, hb1, _, TJ, TR, ht⟩ := RJ.at_ hlt
          cases hb1
          obtain ⟨b', off', t0', hb', _, TA0, _, ht0'⟩ := RJ.at_ (j := 0) (by omega)
          cases hb'
          obtain rfl : t0' = t0 := by have h1 := HT0.out; rw [ht0'] at h1; injection h1
          rw [Nat.zero_mul, Nat.add_zero] at TA0
          obtain ⟨e0, e1, e2, _⟩ := TA0
          have hk := HK.out j
          have hno := HN.out j
          rw [List.getD, ht] at hk hno
          simp only [Option.getD_some] at hk hno
          rw [HE.out, Bool.true_and] at hk
          have cv := fun W => rivalid_b t.m.f t.m.w t.m.h t.A t.n t.c t.m.l W TR.1.len
          obtain ⟨⟨p, q⟩, hpq⟩ : ∃ pq, lsz t0'.m.w t0'.m.h (j : Int) = pq := ⟨_, rfl⟩
          have cl := fun W => rlevelSize_b t0'.m.w t0'.m.h (j : Int) W
          rw [hpq] at cl
          unfold GivesII at cl
          simp only at cl
          have hc := lok_cases t0'.m t.m j hpq
          have CL := Lib.hid cl
          have J2 := Lib.hid RJ
          clear cl hpq ht ht0' RJ TR
          go_wp2
          have k_a0 := cell_regrown a0
          have k_e0 := cell_regrown e0
          have k_e1 := cell_regrown e1
          have k_e2 := cell_regrown e2
          refine wp_region_quiet_below (by kernel_rfl) (by kernel_rfl) ?_
          repeat (first | (go_big_quiet_want; refine quiet_tload _ _ rfl imgType (fun W hW => TAt.on TJ (below_regrown' hW)) rfl ?_; go_simp; go_big_quiet_on) | go_big_quiet_step ((first | (go_at_call 61; exact Calls.regrown_of (CL.out _)))) | quiet_step ((first | (go_at_call 61; exact Calls.regrown_of (CL.out _)))))
          refine wpQuiet_nil ?_
          intro W hw'
          have B := below_regrown' hw'
          clear hw' k_a0 k_e0 k_e1 k_e2
          replace BB := bon BB B
          replace a0 := cell_below B a0
          replace TJ := TAt.on TJ B
          replace e0 := cell_below B e0
          replace e1 := cell_below B e1
          replace e2 := cell_below B e2
          have J3 := Lib.hid (J2.out.on B)
          clear B J2
          go_wp2_with (first
            | (refine wpList_tload rfl _ _ rfl imgType TJ rfl ?_)
            | (refine wpList_iset rfl _ _ _ rfl rfl rfl (IBox.made W 0 0 0 none 0 0 43) (by kernel_rfl) ?_; intro V2 B2 E2 _ _))
          have B := (box_below W #[.int .i64 0, .int .i64 0, .int .i64 0, .slice none 0 0] 43).trans B2
          (replace BB := bon BB B; replace a0 := cell_below B a0; replace e0 := cell_below B e0; replace e1 := cell_below B e1; replace e2 := cell_below B e2)
          have J4 := Lib.hid (J3.out.on B)
          clear B B2 J3 TJ
          have DM := E2.1
          clear E2
          obtain ⟨i0, i1, i2, _⟩ := id DM
          go_simp
          rcases hc with ⟨k1, k2, k3, k4, hz⟩ | ⟨hz, hc⟩
          · rw [hz] at hk
            rw [decide_eq_true (show (Im.mk t.m.f t.m.w t.m.h t.m.l).ok from k1)] at cv
            have CV := Lib.hid cv
            have HK1 := Lib.hid hk
            have t1 : (t.m.f != t0'.m.f) = false := by simp [k2]
            have t2 : (t.m.w != p) = false := by simp [k3]
            have t3 : (t.m.h != q) = false := by simp [k4]
            clear cv hk hno hz k1 k2 k3 k4
            have k_a0 := cell_regrown a0
            have k_i0 := cell_regrown i0
            have k_i1 := cell_regrown i1
            have k_i2 := cell_regrown i2
            have k_e0 := cell_regrown e0
            have k_e1 := cell_regrown e1
            have k_e2 := cell_regrown e2
            refine wp_region_quiet_below (by kernel_rfl) (by kernel_rfl) ?_
            repeat (first | (go_big_quiet_want; refine quiet_iload _ _ rfl imgT (fun W hW => IAt.on DM (below_regrown' hW)) rfl ?_; go_simp; go_big_quiet_on) | go_big_quiet_step ((first | (go_at_call 59; exact Calls.regrown_of (CV.out _)))) | quiet_step ((first | (go_at_call 59; exact Calls.regrown_of (CV.out _)))))
            refine wpQuiet_nil ?_
            intro W hw'
            have B := below_regrown' hw'
            clear hw' k_a0 k_i0 k_i1 k_i2 k_e0 k_e1 k_e2
            replace BB := bon BB B
            replace a0 := cell_below B a0
            replace DM := IAt.on DM B
            replace i0 := cell_below B i0
            replace i1 := cell_below B i1
            replace i2 := cell_below B i2
            replace e0 := cell_below B e0
            replace e1 := cell_below B e1
            replace e2 := cell_below B e2
            have J5 := J4.out.on B
            go_wp2
            go_roundw
            case rel => exact ⟨j + 1, by omega, by go_num, HK1.out, a0, J5, BB⟩
            case measure => simp [intOf]; omega
          · have hE0 := hno hz n hlt
            have HE0 := Lib.hid hE0
            clear hk hno hz hE0
            rcases hc with k1 | ⟨k1, k2⟩ | ⟨k1, k2, k3⟩ | ⟨k1, k2, k3, k4⟩
            · rw [decide_eq_false (show ¬ (Im.mk t.m.f t.m.w t.m.h t.m.l).ok from k1)] at cv
              have CV := Lib.hid cv
              clear cv k1
              have k_a0 := cell_regrown a0
              have k_i0 := cell_regrown i0
              have k_i1 := cell_regrown i1
              have k_i2 := cell_regrown i2
              have k_e0 := cell_regrown e0
              have k_e1 := cell_regrown e1
              have k_e2 := cell_regrown e2
              refine wp_region_quiet_below (by kernel_rfl) (by kernel_rfl) ?_
              repeat (first | (go_big_quiet_want; refine quiet_iload _ _ rfl imgT (fun W hW => IAt.on DM (below_regrown' hW)) rfl ?_; go_simp; go_big_quiet_on) | go_big_quiet_step ((first | (go_at_call 59; exact Calls.regrown_of (CV.out _)))) | quiet_step ((first | (go_at_call 59; exact Calls.regrown_of (CV.out _)))))
              refine wpQuiet_nil ?_
              intro W hw'
              have B := below_regrown' hw'
              clear hw' k_a0 k_i0 k_i1 k_i2 k_e0 k_e1 k_e2
              replace BB := bon BB B
              replace a0 := cell_below B a0
              replace DM := IAt.on DM B
              replace i0 := cell_below B i0
              replace i1 := cell_below B i1
              replace i2 := cell_below B i2
              replace e0 := cell_below B e0
              replace e1 := cell_below B e1
              replace e2 := cell_below B e2
              go_wp2
              go_ret
              exact ⟨by rw [HE0.out]; rfl, BB⟩
            · rw [decide_eq_true (show (Im.mk t.m.f t.m.w t.m.h t.m.l).ok from k1)] at cv
              have CV := Lib.hid cv
              have t1 : (t.m.f != t0'.m.f) = true := by simp [k2]
              clear cv k1 k2
              have k_a0 := cell_regrown a0
              have k_i0 := cell_regrown i0
              have k_i1 := cell_regrown i1
              have k_i2 := cell_regrown i2
              have k_e0 := cell_regrown e0
              have k_e1 := cell_regrown e1
              have k_e2 := cell_regrown e2
              refine wp_region_quiet_below (by kernel_rfl) (by kernel_rfl) ?_
              repeat (first | (go_big_quiet_want; refine quiet_iload _ _ rfl imgT (fun W hW => IAt.on DM (below_regrown' hW)) rfl ?_; go_simp; go_big_quiet_on) | go_big_quiet_step ((first | (go_at_call 59; exact Calls.regrown_of (CV.out _)))) | quiet_step ((first | (go_at_call 59; exact Calls.regrown_of (CV.out _)))))
              refine wpQuiet_nil ?_
              intro W hw'
              have B := below_regrown' hw'
              clear hw' k_a0 k_i0 k_i1 k_i2 k_e0 k_e1 k_e2
              replace BB := bon BB B
              replace a0 := cell_below B a0
              replace DM := IAt.on DM B
              replace i0 := cell_below B i0
              replace i1 := cell_below B i1
              replace i2 := cell_below B i2
              replace e0 := cell_below B e0
              replace e1 := cell_below B e1
              replace e2 := cell_below B e2
              go_wp2
              go_ret
              exact ⟨by rw [HE0.out]; rfl, BB⟩
            · rw [decide_eq_true (show (Im.mk t.m.f t.m.w t.m.h t.m.l).ok from k1)] at cv
              have CV := Lib.hid cv
              have t1 : (t.m.f != t0'.m.f) = false := by simp [k2]
              have t2 : (t.m.w != p) = true := by simp [k3]
              clear cv k1 k2 k3
              have k_a0 := cell_regrown a0
              have k_i0 := cell_regrown i0
              have k_i1 := cell_regrown i1
              have k_i2 := cell_regrown i2
              have k_e0 := cell_regrown e0
              have k_e1 := cell_regrown e1
              have k_e2 := cell_regrown e2
              refine wp_region_quiet_below (by kernel_rfl) (by kernel_rfl) ?_
              repeat (first | (go_big_quiet_want; refine quiet_iload _ _ rfl imgT (fun W hW => IAt.on DM (below_regrown' hW)) rfl ?_; go_simp; go_big_quiet_on) | go_big_quiet_step ((first | (go_at_call 59; exact Calls.regrown_of (CV.out _)))) | quiet_step ((first | (go_at_call 59; exact Calls.regrown_of (CV.out _)))))
              refine wpQuiet_nil ?_
              intro W hw'
              have B := below_regrown' hw'
              clear hw' k_a0 k_i0 k_i1 k_i2 k_e0 k_e1 k_e2
              replace BB := bon BB B
              replace a0 := cell_below B a0
              replace DM := IAt.on DM B
              replace i0 := cell_below B i0
              replace i1 := cell_below B i1
              replace i2 := cell_below B i2
              replace e0 := cell_below B e0
              replace e1 := cell_below B e1
              replace e2 := cell_below B e2
              go_wp2
              go_ret
              exact ⟨by rw [HE0.out]; rfl, BB⟩
            · rw [decide_eq_true (show (Im.mk t.m.f t.m.w t.m.h t.m.l).ok from k1)] at cv
              have CV := Lib.hid cv
              have t1 : (t.m.f != t0'.m.f) = false := by simp [k2]
              have t2 : (t.m.w != p) = false := by simp [k3]
              have t3 : (t.m.h != q) = true := by simp [k4]
              clear cv k1 k2 k3 k4
              have k_a0 := cell_regrown a0
              have k_i0 := cell_regrown i0
              have k_i1 := cell_regrown i1
              have k_i2 := cell_regrown i2
              have k_e0 := cell_regrown e0
              have k_e1 := cell_regrown e1
              have k_e2 := cell_regrown e2
              refine wp_region_quiet_below (by kernel_rfl) (by kernel_rfl) ?_
              repeat (first | (go_big_quiet_want; refine quiet_iload _ _ rfl imgT (fun W hW => IAt.on DM (below_regrown' hW)) rfl ?_; go_simp; go_big_quiet_on) | go_big_quiet_step ((first | (go_at_call 59; exact Calls.regrown_of (CV.out _)))) | quiet_step ((first | (go_at_call 59; exact Calls.regrown_of (CV.out _)))))
              refine wpQuiet_nil ?_
              intro W hw'
              have B := below_regrown' hw'
              clear hw' k_a0 k_i0 k_i1 k_i2 k_e0 k_e1 k_e2
              replace BB := bon BB B
              replace a0 := cell_below B a0
              replace DM := IAt.on DM B
              replace i0 := cell_below B i0
              replace i1 := cell_below B i1
              replace i2 := cell_below B i2
              replace e0 := cell_below B e0
              replace e1 := cell_below B e1
              replace e2 := cell_below B e2
              go_wp2
              go_ret
              exact ⟨by rw [HE0.out]; rfl, BB⟩
        · obtain rfl : j = n := by omega
          go_wp2
          go_ret
          exact ⟨by rw [HE.out]; rfl, BB⟩
    · have e : tv ts = false := by
        unfold tv
        rw [hl0, decide_eq_true h0, Bool.true_and]
        refine tvK_no (j := nlv t0.m.w t0.m.h) ?_ n (by omega)
        rw [hd0]
        unfold lok lsz
        rw [if_neg (by omega)]
        refine decide_eq_false (fun k => ?_)
        have := k.1.2.1.1
        have := k.2.2.1
        simp only at this
        omega
      rw [e]
      obtain ⟨L, hL⟩ : ∃ L, nlv t0.m.w t0.m.h = L := ⟨_, rfl⟩
      rw [hL] at hl
      simp only [hL] at cn
      have hl' : (L : Int) < (n : Int) := by omega
      have CV := Lib.hid cv
      have CN := Lib.hid cn
      clear cv cn R J0 hok hl hL h7 ht0 hd0 hl0 TR hb e
      obtain ⟨_, e1, e2, _⟩ := id TA
      go_enter Tryz.func40, Tryz.ntmps40
      go_wp2
      have k_a0 := cell_regrown a0
      have k_e1 := cell_regrown e1
      have k_e2 := cell_regrown e2
      refine wp_region_quiet_below (by kernel_rfl) (by kernel_rfl) ?_
      repeat (first | (go_big_quiet_want; refine quiet_tload _ _ rfl imgType (fun W hW => TAt.on TA (below_regrown' hW)) rfl ?_; go_simp; go_big_quiet_on) | go_big_quiet_step ((first | (go_at_call 59; exact Calls.regrown_of (CV.out _)) | (go_at_call 60; exact Calls.regrown_of (CN.out _)))) | quiet_step ((first | (go_at_call 59; exact Calls.regrown_of (CV.out _)) | (go_at_call 60; exact Calls.regrown_of (CN.out _)))))
      refine wpQuiet_nil ?_
      intro W hw'
      have B := below_regrown' hw'
      clear hw' k_a0 k_e1 k_e2
      replace BB := bon BB B
      replace a0 := cell_below B a0
      replace TA := TAt.on TA B
      replace e1 := cell_below B e1
      replace e2 := cell_below B e2
      go_wp2
      go_ret
      exact ⟨rfl, BB⟩
  · have e : tv ts = false := by
      unfold tv
      rw [hl0, decide_eq_true h0, Bool.true_and]
      refine tvK_no (j := 0) ?_ n h0
      unfold lok
      refine decide_eq_false (fun k => hok ?_)
      rw [← hd0]
      exact k.1
    rw [e]
    rw [decide_eq_false (show ¬ (Im.mk t0.m.f t0.m.w t0.m.h t0.m.l).ok from hok)] at cv
    have CV := Lib.hid cv
    clear cv cn R J0 hok h7 ht0 hd0 hl0 TR hb e
    go_enter Tryz.func40, Tryz.ntmps40
    go_wp2
    have k_a0 := cell_regrown a0
    refine wp_region_quiet_below (by kernel_rfl) (by kernel_rfl) ?_
    repeat (first | (go_big_quiet_want; refine quiet_tload _ _ rfl imgType (fun W hW => TAt.on TA (below_regrown' hW)) rfl ?_; go_simp; go_big_quiet_on) | go_big_quiet_step ((first | (go_at_call 59; exact Calls.regrown_of (CV.out _)))) | quiet_step ((first | (go_at_call 59; exact Calls.regrown_of (CV.out _)))))
    refine wpQuiet_nil ?_
    intro W hw'
    have B := below_regrown' hw'
    clear hw' k_a0
    replace BB := bon BB B
    replace a0 := cell_below B a0
    replace TA := TAt.on TA B
    go_wp2
    go_ret
    exact ⟨rfl, BB⟩

end Go.Proofs.YtoipmldbjciinaaGreat
