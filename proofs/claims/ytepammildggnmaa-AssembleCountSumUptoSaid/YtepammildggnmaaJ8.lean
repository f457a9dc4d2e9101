/- The walk of AssembleCountSum. -/
import Derived.Test.YtepammildggnmaaJ5
namespace Go.Proofs.Ytepammildggnmaa
open Go.RowKit Go.Sort Go.ChangeShapes Go.WideShapes
set_option linter.unusedVariables false

theorem trk_get (t : Int) (r : List Int) : ∀ k i, i < k → (trk t r k)[i]? = some (trv t r i)
  | 0, i, h => absurd h (by omega)
  | k + 1, i, h => by
    rw [trk]
    by_cases hi : i < k
    · rw [List.getElem?_append_left (by rw [trk_len]; exact hi)]; exact trk_get t r k i hi
    · obtain rfl : i = k := by omega
      rw [List.getElem?_append_right (by rw [trk_len]; omega), trk_len]
      simp

theorem tra_get {t : Int} {rs : List (List Int)} {j i : Nat} {r : List Int} (h : rs[j]? = some r) (hi : i < cnq t r) : (tra t rs)[(tra t (rs.take j)).length + i]? = some (trv t r i) := by
  obtain ⟨hj, rfl⟩ := List.getElem?_eq_some_iff.1 h
  have e : tra t rs = tra t (rs.take j) ++ (trk t rs[j] (cnq t rs[j]) ++ tra t (rs.drop (j + 1))) := by
    conv => lhs; rw [← List.take_append_drop j rs, List.drop_eq_getElem_cons hj, tra_append]
    rfl
  rw [e, List.getElem?_append_right (by omega), show (tra t (rs.take j)).length + i - (tra t (rs.take j)).length = i by omega, List.getElem?_append_left (by rw [trk_len]; exact hi)]
  exact trk_get _ _ _ _ hi

theorem tra_none {t : Int} (h : ¬ tvalid t) : ∀ rs, tra t rs = []
  | [] => rfl
  | r :: rs => by
    have : cnq t r = 0 := by unfold cnq cnt; rw [if_pos (.inr h)]; rfl
    rw [tra, this, tra_none h rs]
    rfl

theorem tri_out {t : Int} {r : List Int} {q : Nat} (h : cnq t r = q) : trf t r (q : Int) = ⟨0, 0, 0⟩ ∧ trb t r.length (q : Int) = false := by
  have h1 := cnq_cast t r
  have h2 : ¬ (0 ≤ (q : Int) ∧ (q : Int) < cnt t r.length) := by omega
  exact ⟨by unfold trf; rw [if_neg h2], decide_eq_false h2⟩

set_option maxRecDepth 100000 in
set_option maxHeartbeats 4000000 in
theorem countSum_walk (A : Option Addr) (n c : Nat) (l : List Int) (t : Int) (w : World) (R : Rd w w.heap.size .i64 A n l) (hn : n ≤ 1048576) :
    Calls Try.prog 7 #[.int .i64 t, .slice A n c] w fun e w' => e = .returned (.bool true) ∧ Below w.heap.size w w' := by
  have BB : Below w.heap.size w w := Below.refl _ _
  have KR := Lib.hid R
  have hl := R.len
  have C1 := Lib.hid (fun W R => runs_b A n c l W R (by omega))
  have C3 := Lib.hid (fun W R => tris_b A n c l t W R (by omega))
  have HT : Hid (tl (rns l) ≤ n) := Lib.hid (by have := rns_tl l; rw [hl] at this; exact this)
  have HN2 : Hid ((rns l).length ≤ n + 1) := Lib.hid (by have := rns_len l; omega)
  have HTL : Hid ((tra t (rns l)).length ≤ n) := Lib.hid (by have h1 := rns_tl l; have h2 := tra_len t (rns l); omega)
  have HV : Hid (¬ tvalid t → (tra t (rns l)).length = 0) := Lib.hid fun h => by rw [tra_none h]; rfl
  have CV := Lib.hid (fun W => of_q (tvalid_q t W))
  obtain ⟨rs, hrs⟩ : ∃ rs, rns l = rs := ⟨_, rfl⟩
  rw [hrs] at C1 C3 HT HN2 HTL HV
  clear R hrs hl
  go_enter Try.func7, Try.ntmps7
  go_wp2_with (first
    | (go_at_call 13; (with_reducible refine (C3.out _ (KR.out.below BB |>.more BB.size)).mono ?_); rintro _ W3 ⟨A3, n3, d3, rfl, R3, B⟩; replace BB := bon BB B; clear B)
    | (go_at_call 21; (with_reducible refine (C1.out _ (KR.out.below BB |>.more BB.size)).mono ?_); rintro _ W1 ⟨A2, N, d2, rows, rfl, RR, hrows, B⟩; replace BB := bon BB B; replace R3 := R3.on B; have K2 := Lib.hid RR; have HR := Lib.hid hrows; have HN : Hid (rs.length = N) := Lib.hid (by rw [← hrows, List.length_map]; exact RR.len); clear RR hrows B))
  have hNb : N ≤ 1048577 := by have h1 := HN2.out; have h2 := HN.out; omega
  have K3 := Lib.hid R3
  have H3 : Hid ((tra t rs).length = n3) := Lib.hid R3.len
  have hn3 : n3 ≤ 1048576 := by have h1 := HTL.out; have h2 := H3.out; omega
  have B0 := Below.refl W1.heap.size W1
  clear R3
  go_loopw [8, 9] (fun a i wr => ∃ j : Nat, j ≤ N ∧ i = .int .i64 (j : Int) ∧ a = .int .i64 ((tra t (rs.take j)).length : Nat) ∧ Below W1.heap.size W1 wr) (fun _ i _ => N - (intOf i).toNat)
  case atStart => exact ⟨0, by omega, rfl, rfl, B0⟩
  case round =>
    clear B0
    obtain ⟨j, hj, rfl, rfl, B0⟩ := hrel
    rename World => wr
    by_cases hlt : j < N
    · obtain ⟨b, off, row, rfl, hbl, cr, RW, hrow⟩ := (K2.out.below B0).at_ hlt
      have hr : rs[j]? = some row.l := by rw [← HR.out, List.getElem?_map, hrow.out]; rfl
      have hsn := tra_snoc (t := t) hr
      have hget := fun i hi => tra_get (t := t) (i := i) hr hi
      have hq := cnq_le t row.l
      have hqc := cnq_cast t row.l
      have hln : row.l.length = row.n := RW.len
      have htl := tl_snoc hr
      have htt := tl_take rs (j + 1)
      have KROW := Lib.hid (show Rd W1 W1.heap.size .i64 row.A row.n row.l from K2.out.2 row (List.mem_of_getElem? hrow.out))
      have CRW : Hid (∀ W, Below W1.heap.size W1 W → W.cell? ⟨b, off + j, none⟩ = some (.slice row.A row.n row.c)) := Lib.hid fun W BW => by
        have c1 := (B0.cell (p := ⟨b, off + j, none⟩) hbl).symm.trans cr
        exact (BW.cell (p := ⟨b, off + j, none⟩) hbl).trans c1
      obtain ⟨rA, rn, rc, rl⟩ := row
      simp only at hr hsn hget htl htt hq hqc hln KROW CRW cr
      rw [hln] at hqc hq htl
      have CC := Lib.hid (fun W => cnt_q t rn W (by have := HT.out; omega) (by omega))
      rw [← hqc] at CC
      obtain ⟨D, hDD⟩ : ∃ D, (tra t (rs.take j)).length = D := ⟨_, rfl⟩
      obtain ⟨Q, hQ⟩ : ∃ Q, cnq t rl = Q := ⟨_, rfl⟩
      have HIN := Lib.hid (fun k (h : k < cnq t rl) => trf_in h)
      have HOUT := Lib.hid (tri_out hQ)
      rw [hQ] at hsn hq CC HIN hget
      have HSN : Hid ((tra t (rs.take (j + 1))).length = D + Q) := Lib.hid (by rw [hsn, List.length_append, hDD, trk_len])
      rw [hDD] at hget ⊢
      have hbd : D + Q ≤ n3 := by
        rcases Nat.eq_zero_or_pos Q with h0 | h0
        · have h1 : (tra t rs).length = n3 := H3.out
          have h2 : tra t rs = tra t (rs.take j) ++ tra t (rs.drop j) := by rw [← tra_append, List.take_append_drop]
          rw [h2, List.length_append, hDD] at h1
          omega
        · have h1 := (List.getElem?_eq_some_iff.1 (hget (Q - 1) (by omega))).1
          have h2 := H3.out
          omega
      have HGET := Lib.hid hget
      have HLN := Lib.hid hln
      have HRN : Hid (rn ≤ 1152921504606846976) := Lib.hid (by have := HT.out; omega)
      have hqr : (Q : Int) ≤ rn := by omega
      clear hr hsn htl htt hq hqc RW hDD hrow hQ hln hget
      go_wp2_with (go_at_call 15; (with_reducible refine (CC.out _).mono ?_); rintro _ _ ⟨rfl, rfl⟩)
      go_loopw [8, 11] (fun a i w2 => ∃ k : Nat, k ≤ Q ∧ i = .int .i64 (k : Int) ∧ a = .int .i64 ((D + k : Nat) : Int) ∧ Below W1.heap.size W1 w2) (fun _ i _ => Q - (intOf i).toNat)
      case atStart => exact ⟨0, by omega, rfl, rfl, B0⟩
      case round =>
        clear B0 cr
        obtain ⟨k, hk, rfl, rfl, B0⟩ := hrel
        rename World => w2
        have cr := CRW.out w2 B0
        by_cases hlk : k < Q
        · obtain ⟨h1, h2⟩ := HIN.out k hlk
          rw [HLN.out] at h2
          have ct := fun W R => tri_b rA rn rc rl t (k : Int) W R HRN.out
          rw [h1, h2] at ct
          have hg := HGET.out k hlk
          obtain ⟨⟨xx, xy, xz⟩, hT⟩ : ∃ T, trv t rl k = T := ⟨_, rfl⟩
          rw [hT] at ct hg
          have CT := Lib.hid ct
          have hdk : D + k < n3 := by omega
          obtain ⟨m, hm⟩ : ∃ m, D + k = m := ⟨_, rfl⟩
          rw [hm] at hg hdk ⊢
          have HM : Hid (D + (k + 1) = m + 1) := Lib.hid (by omega)
          have HG := Lib.hid hg
          have EQ := eq3 xx xy xz xx xy xz
          simp only [beq_self_eq_true, Bool.and_self] at EQ
          have GU := guard3
          clear ct h1 h2 hT hg hm
          go_wp2_with (first
            | (go_at_call 10; (with_reducible refine (CT.out _ (KROW.out.below B0 |>.more B0.size)).mono ?_); rintro _ W4 ⟨rfl, B⟩; have BX := bon B (box_below W4 #[.int .i64 xx, .int .i64 xy, .int .i64 xz] 24); have VA : (W4.alloc (.cells #[.int .i64 xx, .int .i64 xy, .int .i64 xz] 24)).rangeAt W4.heap.size 0 [.int .i64 xx, .int .i64 xy, .int .i64 xz] := (EBox.made W4 #[.int .i64 xx, .int .i64 xy, .int .i64 xz] 24).1; replace B0 := bon B0 BX; clear B BX)
            | ((with_reducible refine estore3L triK ?_ ?_ ?_ ?_); focus rfl; focus rfl; focus rfl))
          obtain ⟨b6, o6, T6, e6, l6, q6, hx6⟩ := (K3.out.below B0).at_ hdk
          subst e6
          obtain rfl : T6 = ⟨xx, xy, xz⟩ := by have h9 := hx6.out; rw [HG.out] at h9; injection h9 with h9; exact h9.symm
          generalize W4.alloc (.cells #[.int .i64 xx, .int .i64 xy, .int .i64 xz] 24) = W5 at *
          have r1 : W5.rangeAt b6 (o6 + m * 3) [.int .i64 xx, .int .i64 xy, .int .i64 xz] := q6
          have t1 : ¬ (n3 : Int) ≤ (m : Int) := by omega
          have t2 : decide (n3 ≤ m) = false := decide_eq_false (by omega)
          clear q6 hx6
          refine wp_region_quiet_below (by kernel_rfl) (by kernel_rfl) ?_
          repeat (first
            | (go_big_quiet_want; refine quiet_eload _ _ rfl triK rfl (fun W hW => rangeAt_on r1 (below_regrown' hW)) rfl ?_; go_simp; go_big_quiet_on)
            | (go_big_quiet_want; refine quiet_eload _ _ rfl triK rfl (fun W hW => rangeAt_on VA (below_regrown' hW)) rfl ?_; go_simp; go_big_quiet_on)
            | go_big_quiet_step (fail) | quiet_step (fail))
          refine wpQuiet_nil ?_
          intro W hw'
          have B := below_regrown' hw'
          clear hw' r1 VA
          replace B0 := bon B0 B
          go_wp2
          go_roundw
          case rel => exact ⟨_, .int .i64 (m + 1), .int .i64 (k + 1), ⟨k + 1, by omega, by go_num, congrArg (Value.int .i64) (by have := HM.out; omega)⟩, rfl, rfl, rfl⟩
          case measure => simp [intOf] <;> omega
        · obtain rfl : k = Q := by omega
          obtain ⟨h1, h2⟩ := HOUT.out
          rw [HLN.out] at h2
          have ct := fun W R => tri_b rA rn rc rl t (k : Int) W R HRN.out
          rw [h1, h2] at ct
          have CT := Lib.hid ct
          clear ct h1 h2
          go_wp2_with (first
            | (go_at_call 10; (with_reducible refine (CT.out _ (KROW.out.below B0 |>.more B0.size)).mono ?_); rintro _ W4 ⟨rfl, B⟩; replace B0 := bon B0 (bon B (box_below W4 #[.int .i64 0, .int .i64 0, .int .i64 0] 24)); clear B)
            | ((with_reducible refine estore3L triK ?_ ?_ ?_ ?_); focus rfl; focus rfl; focus rfl))
          go_roundw
          case rel => exact ⟨j + 1, by omega, by go_num, congrArg (Value.int .i64) (by rw [HSN.out]; omega), B0⟩
          case measure => simp [intOf] <;> omega
    · obtain rfl : j = N := by omega
      have hE : rs.take j = rs := by rw [← HN.out, List.take_length]
      have h3 : (tra t (rs.take j)).length = n3 := by rw [hE]; exact H3.out
      rw [h3]
      replace BB := bon BB B0
      have hv := HV.out
      rw [H3.out] at hv
      clear hE h3 B0
      by_cases ht : tvalid t
      · rw [decide_eq_true ht] at CV
        clear ht hv
        go_wp2_with (first
          | (go_at_call 17; (with_reducible refine (CV.out _).mono ?_); rintro _ W9 ⟨rfl, B⟩; replace BB := bon BB B; clear B)
          | (go_at_call 19; (with_reducible refine (example_b _).mono ?_); rintro _ W9 ⟨rfl, B⟩; replace BB := bon BB B; clear B))
        go_ret
        exact ⟨rfl, BB⟩
      · rw [decide_eq_false ht] at CV
        obtain rfl : n3 = 0 := hv ht
        clear ht hv
        go_wp2_with (first
          | (go_at_call 17; (with_reducible refine (CV.out _).mono ?_); rintro _ W9 ⟨rfl, B⟩; replace BB := bon BB B; clear B)
          | (go_at_call 19; (with_reducible refine (example_b _).mono ?_); rintro _ W9 ⟨rfl, B⟩; replace BB := bon BB B; clear B))
        go_ret
        exact ⟨rfl, BB⟩

end Go.Proofs.Ytepammildggnmaa
