/- What Triangles of package assemble and of the reference returns; Same, SameRuns. -/
import Derived.Test.YtepammildggnmaaJ2
namespace Go.Proofs.Ytepammildggnmaa
open Go.RowKit Go.Sort Go.ChangeShapes Go.WideShapes
set_option linter.unusedVariables false

theorem elTris : ElemE Try.prog 28 24 3 24 := elemE_of Try.underlying28 (by kernel_rfl)

abbrev RdT (w : World) (B : Nat) (A : Option Addr) (n : Nat) (ts : List Tri) : Prop := RdE tri 3 w B A n ts
abbrev OwnT (w : World) (base : Nat) (A : Option Addr) (n c : Nat) (ts : List Tri) : Prop := OwnE tri 3 w base 24 A n c ts

/-- A call that returns a slice of triangles. -/
def GivesT (W : World) (ts : List Tri) (x : Ending) (w' : World) : Prop := ∃ A n c, x = .returned (.slice A n c) ∧ RdT w' w'.heap.size A n ts ∧ Below W.heap.size W w'

theorem trf_in {t : Int} {r : List Int} {k : Nat} (h : k < cnq t r) : trf t r (k : Int) = trv t r k ∧ trb t r.length (k : Int) = true := by
  have h1 := cnq_cast t r
  have h2 : 0 ≤ (k : Int) ∧ (k : Int) < cnt t r.length := by omega
  exact ⟨by unfold trf; rw [if_pos h2, Int.toNat_natCast], decide_eq_true h2⟩

set_option maxRecDepth 100000 in
set_option maxHeartbeats 4000000 in
theorem tris_b (A : Option Addr) (n c : Nat) (l : List Int) (t : Int) (w : World) (R : Rd w w.heap.size .i64 A n l) (hn : n ≤ 1073741824) :
    Calls Try.prog 13 #[.int .i64 t, .slice A n c] w (GivesT w (tra t (rns l))) := by
  have CU := Lib.hid (fun W R => runs_b A n c l W R (by omega))
  have HLL : Hid ((rns l).length ≤ 1073741824) := Lib.hid (by have := rns_len l; have := R.len; omega)
  have HT : Hid (tl (rns l) ≤ n) := Lib.hid (by have := rns_tl l; rw [R.len] at this; exact this)
  obtain ⟨rs, hrs⟩ : ∃ rs, rns l = rs := ⟨_, rfl⟩
  rw [hrs] at CU HT HLL ⊢
  have K1 := R
  clear R hrs
  go_enter Try.func13, Try.ntmps13
  go_wp2_with (go_at_call 21; (with_reducible refine (CU.out _ K1).mono ?_); rintro _ W1 ⟨A2, N, d2, rows, rfl, RR, hrows, BB⟩; have K2 := Lib.hid RR; have HR := Lib.hid hrows; have HN : Hid (rs.length = N) := Lib.hid (by rw [← hrows, List.length_map]; exact RR.len); clear RR hrows)
  have hNb : N ≤ 1073741824 := by have h1 := HLL.out; have h2 := HN.out; omega
  have O0 := Lib.hid (OwnE.nil tri 3 W1 24)
  have B0 := Below.refl W1.heap.size W1
  go_loopw [5, 14] (fun u i wr => ∃ (j c5 : Nat) (A5 : Option Addr), j ≤ N ∧ i = .int .i64 (j : Int) ∧ u = .slice A5 (tra t (rs.take j)).length c5 ∧ OwnT wr W1.heap.size A5 (tra t (rs.take j)).length c5 (tra t (rs.take j)) ∧ Below W1.heap.size W1 wr) (fun _ i _ => N - (intOf i).toNat)
  case atStart => exact ⟨0, 0, none, by omega, rfl, rfl, O0.out, B0⟩
  case round =>
    clear O0 B0
    obtain ⟨j, c5, A5, hj, rfl, rfl, own, B0⟩ := hrel
    rename World => wr
    by_cases hlt : j < N
    · obtain ⟨b, off, row, rfl, hbl, cr, RW, hrow⟩ := (K2.out.below B0).at_ hlt
      have hr : rs[j]? = some row.l := by rw [← HR.out, List.getElem?_map, hrow.out]; rfl
      have hsn := tra_snoc (t := t) hr
      have htl := tl_snoc hr
      have htt := tl_take rs (j + 1)
      have hD := tra_len t (rs.take j)
      have hq := cnq_le t row.l
      have hqc := cnq_cast t row.l
      have hln : row.l.length = row.n := RW.len
      have KROW := Lib.hid (show Rd W1 W1.heap.size .i64 row.A row.n row.l from K2.out.2 row (List.mem_of_getElem? hrow.out))
      have hblt : b < W1.heap.size := hbl
      have CRW : Hid (∀ W, Below W1.heap.size W1 W → W.cell? ⟨b, off + j, none⟩ = some (.slice row.A row.n row.c)) := Lib.hid fun W BW => by
        have c1 := (B0.cell (p := ⟨b, off + j, none⟩) hblt).symm.trans cr
        exact (BW.cell (p := ⟨b, off + j, none⟩) hblt).trans c1
      clear hblt
      obtain ⟨rA, rn, rc, rl⟩ := row
      simp only at hr hsn htl htt hq hqc hln KROW CRW cr
      rw [hln] at hqc hq htl
      have CC := Lib.hid (fun W => cnt_q t rn W (by have := HT.out; omega) (by omega))
      rw [← hqc] at CC
      obtain ⟨D, hDD⟩ : ∃ D, tra t (rs.take j) = D := ⟨_, rfl⟩
      rw [hDD] at hsn hD own ⊢
      obtain ⟨Q, hQ⟩ : ∃ Q, cnq t rl = Q := ⟨_, rfl⟩
      have HIN := Lib.hid (fun k (h : k < cnq t rl) => trf_in h)
      rw [hQ] at hsn hq CC HIN
      have hbd : D.length + Q ≤ 1073741824 := by have := HT.out; omega
      have HSN := Lib.hid hsn
      have OW := Lib.hid own
      have HLN := Lib.hid hln
      have HRN : Hid (rn ≤ 1152921504606846976) := Lib.hid (by have := HT.out; omega)
      clear hr hsn htl htt hD hq hqc own RW hDD hrow hQ hln
      go_wp2_with (go_at_call 15; (with_reducible refine (CC.out _).mono ?_); rintro _ _ ⟨rfl, rfl⟩)
      go_loopw [5, 22] (fun u i w2 => ∃ (k c6 : Nat) (A6 : Option Addr), k ≤ Q ∧ i = .int .i64 (k : Int) ∧ u = .slice A6 (D.length + k) c6 ∧ OwnT w2 W1.heap.size A6 (D.length + k) c6 (D ++ trk t rl k) ∧ Below W1.heap.size W1 w2) (fun _ i _ => Q - (intOf i).toNat)
      case atStart => exact ⟨0, c5, A5, by omega, rfl, rfl, by rw [trk, List.append_nil, Nat.add_zero]; exact OW.out, B0⟩
      case round =>
        clear OW B0 cr
        obtain ⟨k, c6, A6, hk, rfl, rfl, own, B0⟩ := hrel
        rename World => w2
        have cr := CRW.out w2 B0
        have OW := Lib.hid own
        clear own
        by_cases hlk : k < Q
        · obtain ⟨h1, h2⟩ := HIN.out k hlk
          rw [HLN.out] at h2
          have ct := fun W R => tri_b rA rn rc rl t (k : Int) W R HRN.out
          rw [h1, h2] at ct
          have HTK : Hid (trk t rl (k + 1) = trk t rl k ++ [trv t rl k]) := Lib.hid rfl
          obtain ⟨⟨xx, xy, xz⟩, hT⟩ : ∃ T, trv t rl k = T := ⟨_, rfl⟩
          rw [hT] at ct HTK
          have CT := Lib.hid ct
          clear ct h1 h2 hT
          go_wp2_with (first
            | (go_at_call 15; (with_reducible refine (CC.out _).mono ?_); rintro _ _ ⟨rfl, rfl⟩)
            | (go_at_call 10; (with_reducible refine (CT.out _ (KROW.out.below B0 |>.more B0.size)).mono ?_); rintro _ W3 ⟨rfl, B⟩; have BX := bon B (box_below W3 #[.int .i64 xx, .int .i64 xy, .int .i64 xz] 24); have VA : (W3.alloc (.cells #[.int .i64 xx, .int .i64 xy, .int .i64 xz] 24)).rangeAt W3.heap.size 0 [.int .i64 xx, .int .i64 xy, .int .i64 xz] := (EBox.made W3 #[.int .i64 xx, .int .i64 xy, .int .i64 xz] 24).1; have OW1 := Lib.hid (OW.out.on BX); replace B0 := bon B0 BX; clear B BX OW)
            | ((with_reducible refine estore3L triK ?_ ?_ ?_ ?_); focus rfl; focus rfl; focus rfl)
            | ((with_reducible refine eload3L triK VA ?_ ?_); focus rfl)
            | (refine app1Z _ rfl _ _ _ rfl triEnc elTris OW1.out rfl ⟨xx, xy, xz⟩ rfl rfl (by simp) (by simp only [maxLen]; omega) (by omega) ?_; intro A7 n7 c7 W7 own7 B7; replace B0 := B0.trans B7; have OW7 := Lib.hid own7; obtain rfl : n7 = D.length + k + 1 := (by have h9 := own7.len; rw [List.length_append, List.length_append, trk_len] at h9; exact h9.symm); clear own7 B7))
          go_roundw
          case rel => exact ⟨k + 1, c7, A7, by omega, by go_num, by first | rfl | simp [Nat.add_assoc], by rw [HTK.out, ← List.append_assoc, ← Nat.add_assoc]; exact OW7.out, B0⟩
          case measure => simp [intOf] <;> omega
        · obtain rfl : k = Q := by omega
          go_wp2_with (go_at_call 15; (with_reducible refine (CC.out _).mono ?_); rintro _ _ ⟨rfl, rfl⟩)
          go_roundw
          case rel => exact ⟨j + 1, c6, A6, by omega, by go_num, by rw [HSN.out, List.length_append, trk_len], by rw [HSN.out, List.length_append, trk_len]; exact OW.out, B0⟩
          case measure => simp [intOf] <;> omega
    · obtain rfl : j = N := by omega
      have HE : Hid (rs.take j = rs) := Lib.hid (by rw [← HN.out, List.take_length])
      have OW := Lib.hid own
      clear own
      go_wp2
      go_ret
      exact ⟨_, _, _, rfl, by (have o := OW.out.rd triEnc; rw [show tra t rs = tra t (rs.take j) by rw [HE.out]]; exact o), bon BB B0⟩

set_option maxRecDepth 100000 in
set_option maxHeartbeats 4000000 in
theorem rtris_b (A : Option Addr) (n c : Nat) (l : List Int) (t : Int) (w : World) (R : Rd w w.heap.size .i64 A n l) (hn : n ≤ 1073741824) :
    Calls Try.prog 14 #[.int .i64 t, .slice A n c] w (GivesT w (tra t (rns l))) := by
  have CU := Lib.hid (fun W R => rruns_b A n c l W R (by omega))
  have HLL : Hid ((rns l).length ≤ 1073741824) := Lib.hid (by have := rns_len l; have := R.len; omega)
  have HT : Hid (tl (rns l) ≤ n) := Lib.hid (by have := rns_tl l; rw [R.len] at this; exact this)
  obtain ⟨rs, hrs⟩ : ∃ rs, rns l = rs := ⟨_, rfl⟩
  rw [hrs] at CU HT HLL ⊢
  have K1 := R
  clear R hrs
  go_enter Try.func14, Try.ntmps14
  go_wp2_with (go_at_call 22; (with_reducible refine (CU.out _ K1).mono ?_); rintro _ W1 ⟨A2, N, d2, rows, rfl, RR, hrows, BB⟩; have K2 := Lib.hid RR; have HR := Lib.hid hrows; have HN : Hid (rs.length = N) := Lib.hid (by rw [← hrows, List.length_map]; exact RR.len); clear RR hrows)
  have hNb : N ≤ 1073741824 := by have h1 := HLL.out; have h2 := HN.out; omega
  have O0 := Lib.hid (OwnE.nil tri 3 W1 24)
  have B0 := Below.refl W1.heap.size W1
  go_loopw [5, 7] (fun u i wr => ∃ (j c5 : Nat) (A5 : Option Addr), j ≤ N ∧ i = .int .i64 (j : Int) ∧ u = .slice A5 (tra t (rs.take j)).length c5 ∧ OwnT wr W1.heap.size A5 (tra t (rs.take j)).length c5 (tra t (rs.take j)) ∧ Below W1.heap.size W1 wr) (fun _ i _ => N - (intOf i).toNat)
  case atStart => exact ⟨0, 0, none, by omega, rfl, rfl, O0.out, B0⟩
  case round =>
    clear O0 B0
    obtain ⟨j, c5, A5, hj, rfl, rfl, own, B0⟩ := hrel
    rename World => wr
    by_cases hlt : j < N
    · obtain ⟨b, off, row, rfl, hbl, cr, RW, hrow⟩ := (K2.out.below B0).at_ hlt
      have hr : rs[j]? = some row.l := by rw [← HR.out, List.getElem?_map, hrow.out]; rfl
      have hsn := tra_snoc (t := t) hr
      have htl := tl_snoc hr
      have htt := tl_take rs (j + 1)
      have hD := tra_len t (rs.take j)
      have hq := cnq_le t row.l
      have hqc := cnq_cast t row.l
      have hln : row.l.length = row.n := RW.len
      have KROW := Lib.hid (show Rd W1 W1.heap.size .i64 row.A row.n row.l from K2.out.2 row (List.mem_of_getElem? hrow.out))
      have hblt : b < W1.heap.size := hbl
      have CRW : Hid (∀ W, Below W1.heap.size W1 W → W.cell? ⟨b, off + j, none⟩ = some (.slice row.A row.n row.c)) := Lib.hid fun W BW => by
        have c1 := (B0.cell (p := ⟨b, off + j, none⟩) hblt).symm.trans cr
        exact (BW.cell (p := ⟨b, off + j, none⟩) hblt).trans c1
      clear hblt
      obtain ⟨rA, rn, rc, rl⟩ := row
      simp only at hr hsn htl htt hq hqc hln KROW CRW cr
      rw [hln] at hqc hq htl
      have CC := Lib.hid (fun W => rcnt_q t rn W (by have := HT.out; omega) (by omega))
      rw [← hqc] at CC
      obtain ⟨D, hDD⟩ : ∃ D, tra t (rs.take j) = D := ⟨_, rfl⟩
      rw [hDD] at hsn hD own ⊢
      obtain ⟨Q, hQ⟩ : ∃ Q, cnq t rl = Q := ⟨_, rfl⟩
      have HIN := Lib.hid (fun k (h : k < cnq t rl) => trf_in h)
      rw [hQ] at hsn hq CC HIN
      have hbd : D.length + Q ≤ 1073741824 := by have := HT.out; omega
      have HSN := Lib.hid hsn
      have OW := Lib.hid own
      have HLN := Lib.hid hln
      have HRN : Hid (rn ≤ 1152921504606846976) := Lib.hid (by have := HT.out; omega)
      clear hr hsn htl htt hD hq hqc own RW hDD hrow hQ hln
      go_wp2_with (go_at_call 16; (with_reducible refine (CC.out _).mono ?_); rintro _ _ ⟨rfl, rfl⟩)
      go_loopw [5, 8] (fun u i w2 => ∃ (k c6 : Nat) (A6 : Option Addr), k ≤ Q ∧ i = .int .i64 (k : Int) ∧ u = .slice A6 (D.length + k) c6 ∧ OwnT w2 W1.heap.size A6 (D.length + k) c6 (D ++ trk t rl k) ∧ Below W1.heap.size W1 w2) (fun _ i _ => Q - (intOf i).toNat)
      case atStart => exact ⟨0, c5, A5, by omega, rfl, rfl, by rw [trk, List.append_nil, Nat.add_zero]; exact OW.out, B0⟩
      case round =>
        clear OW B0 cr
        obtain ⟨k, c6, A6, hk, rfl, rfl, own, B0⟩ := hrel
        rename World => w2
        have cr := CRW.out w2 B0
        have OW := Lib.hid own
        clear own
        by_cases hlk : k < Q
        · obtain ⟨h1, h2⟩ := HIN.out k hlk
          rw [HLN.out] at h2
          have ct := fun W R => rtri_b rA rn rc rl t (k : Int) W R HRN.out
          rw [h1, h2] at ct
          have HTK : Hid (trk t rl (k + 1) = trk t rl k ++ [trv t rl k]) := Lib.hid rfl
          obtain ⟨⟨xx, xy, xz⟩, hT⟩ : ∃ T, trv t rl k = T := ⟨_, rfl⟩
          rw [hT] at ct HTK
          have CT := Lib.hid ct
          clear ct h1 h2 hT
          go_wp2_with (first
            | (go_at_call 16; (with_reducible refine (CC.out _).mono ?_); rintro _ _ ⟨rfl, rfl⟩)
            | (go_at_call 11; (with_reducible refine (CT.out _ (KROW.out.below B0 |>.more B0.size)).mono ?_); rintro _ W3 ⟨rfl, B⟩; have BX := bon B (box_below W3 #[.int .i64 xx, .int .i64 xy, .int .i64 xz] 24); have VA : (W3.alloc (.cells #[.int .i64 xx, .int .i64 xy, .int .i64 xz] 24)).rangeAt W3.heap.size 0 [.int .i64 xx, .int .i64 xy, .int .i64 xz] := (EBox.made W3 #[.int .i64 xx, .int .i64 xy, .int .i64 xz] 24).1; have OW1 := Lib.hid (OW.out.on BX); replace B0 := bon B0 BX; clear B BX OW)
            | ((with_reducible refine estore3L triK ?_ ?_ ?_ ?_); focus rfl; focus rfl; focus rfl)
            | ((with_reducible refine eload3L triK VA ?_ ?_); focus rfl)
            | (refine app1Z _ rfl _ _ _ rfl triEnc elTris OW1.out rfl ⟨xx, xy, xz⟩ rfl rfl (by simp) (by simp only [maxLen]; omega) (by omega) ?_; intro A7 n7 c7 W7 own7 B7; replace B0 := B0.trans B7; have OW7 := Lib.hid own7; obtain rfl : n7 = D.length + k + 1 := (by have h9 := own7.len; rw [List.length_append, List.length_append, trk_len] at h9; exact h9.symm); clear own7 B7))
          go_roundw
          case rel => exact ⟨k + 1, c7, A7, by omega, by go_num, by first | rfl | simp [Nat.add_assoc], by rw [HTK.out, ← List.append_assoc, ← Nat.add_assoc]; exact OW7.out, B0⟩
          case measure => simp [intOf] <;> omega
        · obtain rfl : k = Q := by omega
          go_wp2_with (go_at_call 16; (with_reducible refine (CC.out _).mono ?_); rintro _ _ ⟨rfl, rfl⟩)
          go_roundw
          case rel => exact ⟨j + 1, c6, A6, by omega, by go_num, by rw [HSN.out, List.length_append, trk_len], by rw [HSN.out, List.length_append, trk_len]; exact OW.out, B0⟩
          case measure => simp [intOf] <;> omega
    · obtain rfl : j = N := by omega
      have HE : Hid (rs.take j = rs) := Lib.hid (by rw [← HN.out, List.take_length])
      have OW := Lib.hid own
      clear own
      go_wp2
      go_ret
      exact ⟨_, _, _, rfl, by (have o := OW.out.rd triEnc; rw [show tra t rs = tra t (rs.take j) by rw [HE.out]]; exact o), bon BB B0⟩

end Go.Proofs.Ytepammildggnmaa
