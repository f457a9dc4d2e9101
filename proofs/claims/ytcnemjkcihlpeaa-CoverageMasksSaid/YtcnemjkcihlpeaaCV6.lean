/- What Mask of the reference returns; the walk of CoverageMasks. -/
import Derived.Test.YtcnemjkcihlpeaaCV2
import Derived.Test.YtcnemjkcihlpeaaCV4
import Derived.Test.YtcnemjkcihlpeaaCV5
namespace Go.Proofs.Ytcnemjkcihlpeaa
set_option linter.unusedSimpArgs false
open Go.RowKit Go.Sort Go.ChangeShapes Go.WideShapes
set_option linter.unusedVariables false

set_option maxRecDepth 100000 in
set_option maxHeartbeats 4000000 in
theorem rmask_no (a b c : SV) (p : Int) (f : Bool) (x y n : Int) (h : pixel x y = false) (w : World) : Calls Try.prog 21 #[.agg #[.int .i64 a.x, .int .i64 a.y, .int .i64 a.z, .int .i64 a.q, .slice a.A a.n a.c, .int .i64 b.x, .int .i64 b.y, .int .i64 b.z, .int .i64 b.q, .slice b.A b.n b.c, .int .i64 c.x, .int .i64 c.y, .int .i64 c.z, .int .i64 c.q, .slice c.A c.n c.c, .int .i64 p, .bool f], .int .i64 x, .int .i64 y, .int .i64 n] w fun e w' => e = .returned (.int .i64 0) ∧ Below w.heap.size w w' := by
  have BB := box_below w #[.int .i64 a.x, .int .i64 a.y, .int .i64 a.z, .int .i64 a.q, .slice a.A a.n a.c, .int .i64 b.x, .int .i64 b.y, .int .i64 b.z, .int .i64 b.q, .slice b.A b.n b.c, .int .i64 c.x, .int .i64 c.y, .int .i64 c.z, .int .i64 c.q, .slice c.A c.n c.c, .int .i64 p, .bool f] 36
  have X0 := EBox.made w #[.int .i64 a.x, .int .i64 a.y, .int .i64 a.z, .int .i64 a.q, .slice a.A a.n a.c, .int .i64 b.x, .int .i64 b.y, .int .i64 b.z, .int .i64 b.q, .slice b.A b.n b.c, .int .i64 c.x, .int .i64 c.y, .int .i64 c.z, .int .i64 c.q, .slice c.A c.n c.c, .int .i64 p, .bool f] 36
  have Etr := range_cut X0.1 0 17
  simp only [List.drop_succ_cons, List.drop_zero, List.take_succ_cons, List.take_zero, Nat.zero_add] at Etr
  clear X0
  have hl8 := posl_len n
  have CQ := Lib.hid (fun W => rpos_b n W)
  have CX := Lib.hid (fun i W => rsp_no x y n i h W)
  obtain ⟨N, hN⟩ : ∃ N, (posl n).length = N := ⟨_, rfl⟩
  rw [hN] at hl8
  have HN := Lib.hid hN
  clear h hN
  go_enter Try.func21, Try.ntmps21
  go_wp2_with fail
  generalize hW : w.alloc (.cells #[.int .i64 a.x, .int .i64 a.y, .int .i64 a.z, .int .i64 a.q, .slice a.A a.n a.c, .int .i64 b.x, .int .i64 b.y, .int .i64 b.z, .int .i64 b.q, .slice b.A b.n b.c, .int .i64 c.x, .int .i64 c.y, .int .i64 c.z, .int .i64 c.q, .slice c.A c.n c.c, .int .i64 p, .bool f] 36) = W0 at *
  clear hW
  have LE := Lib.hid Etr
  have HB := Lib.hid BB
  clear Etr BB
  go_loopw [9, 10, 11] (fun m q i wr => ∃ k : Nat, k ≤ N ∧ i = .int .i64 (k : Int) ∧ m = .int .i64 0 ∧ q = .int .i64 ((2 ^ k : Nat) : Int) ∧ Below W0.heap.size W0 wr) (fun _ _ i _ => N - (intOf i).toNat)
  case atStart => exact ⟨0, Nat.zero_le _, rfl, rfl, rfl, Below.refl _ _⟩
  case round =>
    obtain ⟨k, hk, rfl, rfl, rfl, B1⟩ := hrel
    rename World => wr
    have BB := B1
    have Etr := rangeAt_on LE.out B1
    clear B1
    have hp7 : 2 ^ k ≤ 2 ^ 8 := Nat.pow_le_pow_right (by omega) (show k ≤ 8 by omega)
    have h2 : 2 ^ (k + 1) = 2 ^ k * 2 := Nat.pow_succ 2 k
    obtain ⟨M, hM⟩ : ∃ M, 2 ^ k = M := ⟨_, rfl⟩
    rw [hM] at hp7 h2
    have H2 := Lib.hid h2
    rw [hM]
    clear h2 hM
    have CS := Lib.hid (fun W => CX.out (k : Int) W)
    by_cases hlt : k < N
    · go_wp2_with (first
    | (go_at_call 10; (with_reducible refine (CQ.out _).mono ?_); rintro _ W3 ⟨A, q, rfl, R, B⟩; replace BB := bon BB B; replace Etr := rangeAt_on Etr B; rw [HN.out]; clear B R)
    | (go_at_call 12; (with_reducible refine (CS.out _).mono ?_); rintro _ W4 ⟨rfl, B⟩; replace BB := bon BB B; replace Etr := rangeAt_on Etr B; clear B))
      go_roundw
      case rel => exact ⟨k + 1, by omega, by go_num, rfl, by rw [H2.out]; simp, BB⟩
      case measure => simp [intOf]; omega
    · go_wp2_with (first
    | (go_at_call 10; (with_reducible refine (CQ.out _).mono ?_); rintro _ W3 ⟨A, q, rfl, R, B⟩; replace BB := bon BB B; replace Etr := rangeAt_on Etr B; rw [HN.out]; clear B R)
    | (go_at_call 12; (with_reducible refine (CS.out _).mono ?_); rintro _ W4 ⟨rfl, B⟩; replace BB := bon BB B; replace Etr := rangeAt_on Etr B; clear B))
      go_ret
      exact ⟨rfl, bon HB.out BB⟩

set_option maxRecDepth 100000 in
set_option maxHeartbeats 4000000 in
theorem rmask_yes (a b c : SV) (p : Int) (f : Bool) (x y n : Int) (h : pixel x y = true) (w : World) : Calls Try.prog 21 #[.agg #[.int .i64 a.x, .int .i64 a.y, .int .i64 a.z, .int .i64 a.q, .slice a.A a.n a.c, .int .i64 b.x, .int .i64 b.y, .int .i64 b.z, .int .i64 b.q, .slice b.A b.n b.c, .int .i64 c.x, .int .i64 c.y, .int .i64 c.z, .int .i64 c.q, .slice c.A c.n c.c, .int .i64 p, .bool f], .int .i64 x, .int .i64 y, .int .i64 n] w fun e w' => e = .returned (.int .i64 (mbits a b c x y (posl n) 0 : Nat)) ∧ Below w.heap.size w w' := by
  have BB := box_below w #[.int .i64 a.x, .int .i64 a.y, .int .i64 a.z, .int .i64 a.q, .slice a.A a.n a.c, .int .i64 b.x, .int .i64 b.y, .int .i64 b.z, .int .i64 b.q, .slice b.A b.n b.c, .int .i64 c.x, .int .i64 c.y, .int .i64 c.z, .int .i64 c.q, .slice c.A c.n c.c, .int .i64 p, .bool f] 36
  have X0 := EBox.made w #[.int .i64 a.x, .int .i64 a.y, .int .i64 a.z, .int .i64 a.q, .slice a.A a.n a.c, .int .i64 b.x, .int .i64 b.y, .int .i64 b.z, .int .i64 b.q, .slice b.A b.n b.c, .int .i64 c.x, .int .i64 c.y, .int .i64 c.z, .int .i64 c.q, .slice c.A c.n c.c, .int .i64 p, .bool f] 36
  have Etr := range_cut X0.1 0 17
  simp only [List.drop_succ_cons, List.drop_zero, List.take_succ_cons, List.take_zero, Nat.zero_add] at Etr
  clear X0
  have hl8 := posl_len n
  have HBD := Lib.hid (posl_bd n)
  have HT := Lib.hid (fun k p hk => mbits_take a b c x y (l := posl n) (k := k) (p := p) hk)
  have HS := Lib.hid (fun k hk => mbits_small a b c x y (posl n) k hk)
  have CQ := Lib.hid (fun W => rpos_b n W)
  have CX := Lib.hid (fun k p hk W => rsp_yes x y n k p h hk W)
  have HF : Hid ((posl n).take (posl n).length = posl n) := Lib.hid List.take_length
  obtain ⟨hx0, hx1, hy0, hy1⟩ : 0 ≤ x ∧ x < 64 ∧ 0 ≤ y ∧ y < 64 := by simpa [pixel] using h
  generalize posl n = l at *
  obtain ⟨N, hN⟩ : ∃ N, l.length = N := ⟨_, rfl⟩
  rw [hN] at hl8
  have HN := Lib.hid hN
  clear h hN
  go_enter Try.func21, Try.ntmps21
  go_wp2_with fail
  generalize hW : w.alloc (.cells #[.int .i64 a.x, .int .i64 a.y, .int .i64 a.z, .int .i64 a.q, .slice a.A a.n a.c, .int .i64 b.x, .int .i64 b.y, .int .i64 b.z, .int .i64 b.q, .slice b.A b.n b.c, .int .i64 c.x, .int .i64 c.y, .int .i64 c.z, .int .i64 c.q, .slice c.A c.n c.c, .int .i64 p, .bool f] 36) = W0 at *
  clear hW
  have LE := Lib.hid Etr
  have HB := Lib.hid BB
  clear Etr BB
  go_loopw [9, 10, 11] (fun m q i wr => ∃ k : Nat, k ≤ N ∧ i = .int .i64 (k : Int) ∧ m = .int .i64 (mbits a b c x y (l.take k) 0 : Nat) ∧ q = .int .i64 ((2 ^ k : Nat) : Int) ∧ Below W0.heap.size W0 wr) (fun _ _ i _ => N - (intOf i).toNat)
  case atStart => exact ⟨0, Nat.zero_le _, rfl, rfl, rfl, Below.refl _ _⟩
  case round =>
    obtain ⟨k, hk, rfl, rfl, rfl, B1⟩ := hrel
    rename World => wr
    have BB := B1
    have Etr := rangeAt_on LE.out B1
    clear B1
    have hp7 : 2 ^ k ≤ 2 ^ 8 := Nat.pow_le_pow_right (by omega) (show k ≤ 8 by omega)
    have h2 : 2 ^ (k + 1) = 2 ^ k * 2 := Nat.pow_succ 2 k
    have hs := HS.out k (by have := HN.out; omega)
    by_cases hlt : k < N
    · obtain ⟨⟨p0, p1⟩, hp⟩ : ∃ p, l[k]? = some p := ⟨_, List.getElem?_eq_getElem (by have := HN.out; omega)⟩
      obtain ⟨⟨q0, q1⟩, q2, q3⟩ := HBD.out _ (List.mem_of_getElem? hp)
      have ht := HT.out k _ hp
      have CS' := fun W => CX.out k _ hp W
      simp only at q0 q1 q2 q3 ht CS'
      obtain ⟨X, hX⟩ : ∃ X, x * 256 + p0 = X := ⟨_, rfl⟩
      obtain ⟨Y, hY⟩ : ∃ Y, y * 256 + p1 = Y := ⟨_, rfl⟩
      rw [hX, hY] at ht CS'
      have X0 : 0 ≤ X := by omega
      have cc := fun v hv W => rcov_at a b c p f X Y v ⟨onv_id _ (by omega) (by omega), onv_id _ (by omega) (by omega)⟩ hv W
      obtain ⟨v, hv⟩ : ∃ v, cov a b c X Y = v := ⟨_, rfl⟩
      have cd := fun W => cc v hv W
      rw [hv] at ht
      obtain ⟨m, hm⟩ : ∃ m, mbits a b c x y (l.take k) 0 = m := ⟨_, rfl⟩
      rw [hm] at ht hs ⊢
      obtain ⟨M, hM⟩ : ∃ M, 2 ^ k = M := ⟨_, rfl⟩
      rw [hM] at hp7 h2 ht hs
      rw [hM]
      have H2 := Lib.hid h2
      have HTT := Lib.hid ht
      have CC := Lib.hid cd
      have CS := Lib.hid CS'
      clear h2 hM hm hv cc cd ht CS' hp q0 q1 q2 q3 hX hY
      cases v
      all_goals
        go_wp2_with (first
    | (go_at_call 10; (with_reducible refine (CQ.out _).mono ?_); rintro _ W3 ⟨A, q, rfl, R, B⟩; replace BB := bon BB B; replace Etr := rangeAt_on Etr B; rw [HN.out]; clear B R)
    | (go_at_call 12; (with_reducible refine (CS.out _).mono ?_); rintro _ W4 ⟨rfl, B⟩; replace BB := bon BB B; replace Etr := rangeAt_on Etr B; clear B)
    | (go_at_call 31; (with_reducible refine (CC.out _).mono ?_); rintro _ W5 ⟨rfl, B⟩; replace BB := bon BB B; clear B)
    | ((with_reducible refine wpList_ungd ?_ ?_); (focus rfl); (with_reducible refine eload17L rk_tr Etr ?_ ?_); focus rfl))
        go_roundw
        case rel => exact ⟨k + 1, by omega, by go_num, by rw [HTT.out]; simp, by rw [H2.out]; simp, BB⟩
        case measure => simp [intOf]; omega
    · obtain rfl : k = N := by omega
      have hf : l.take k = l := by rw [← HN.out]; exact HF.out
      rw [hf]
      clear hf h2 hs
      go_wp2_with (first
    | (go_at_call 10; (with_reducible refine (CQ.out _).mono ?_); rintro _ W3 ⟨A, q, rfl, R, B⟩; replace BB := bon BB B; replace Etr := rangeAt_on Etr B; rw [HN.out]; clear B R)
    | (go_at_call 12; (with_reducible refine (CS.out _).mono ?_); rintro _ W4 ⟨rfl, B⟩; replace BB := bon BB B; replace Etr := rangeAt_on Etr B; clear B))
      go_ret
      exact ⟨rfl, bon HB.out BB⟩

theorem rmask_at (a b c : SV) (p : Int) (f : Bool) (x y n v : Int) (hv : maskv a b c x y n = v) (w : World) : Calls Try.prog 21 #[.agg #[.int .i64 a.x, .int .i64 a.y, .int .i64 a.z, .int .i64 a.q, .slice a.A a.n a.c, .int .i64 b.x, .int .i64 b.y, .int .i64 b.z, .int .i64 b.q, .slice b.A b.n b.c, .int .i64 c.x, .int .i64 c.y, .int .i64 c.z, .int .i64 c.q, .slice c.A c.n c.c, .int .i64 p, .bool f], .int .i64 x, .int .i64 y, .int .i64 n] w fun e w' => e = .returned (.int .i64 v) ∧ Below w.heap.size w w' := by
  subst hv
  unfold maskv
  cases h : pixel x y
  · exact rmask_no a b c p f x y n h w
  · exact rmask_yes a b c p f x y n h w

set_option maxRecDepth 100000 in
set_option maxHeartbeats 4000000 in
theorem masks_walk (a b c : SV) (p : Int) (f : Bool) (x y n : Int) (w : World) : Calls Try.prog 4 #[.agg #[.int .i64 a.x, .int .i64 a.y, .int .i64 a.z, .int .i64 a.q, .slice a.A a.n a.c, .int .i64 b.x, .int .i64 b.y, .int .i64 b.z, .int .i64 b.q, .slice b.A b.n b.c, .int .i64 c.x, .int .i64 c.y, .int .i64 c.z, .int .i64 c.q, .slice c.A c.n c.c, .int .i64 p, .bool f], .int .i64 x, .int .i64 y, .int .i64 n] w fun e w' => e = .returned (.bool true) ∧ Below w.heap.size w w' := by
  have BB := box_below w #[.int .i64 a.x, .int .i64 a.y, .int .i64 a.z, .int .i64 a.q, .slice a.A a.n a.c, .int .i64 b.x, .int .i64 b.y, .int .i64 b.z, .int .i64 b.q, .slice b.A b.n b.c, .int .i64 c.x, .int .i64 c.y, .int .i64 c.z, .int .i64 c.q, .slice c.A c.n c.c, .int .i64 p, .bool f] 36
  have X0 := EBox.made w #[.int .i64 a.x, .int .i64 a.y, .int .i64 a.z, .int .i64 a.q, .slice a.A a.n a.c, .int .i64 b.x, .int .i64 b.y, .int .i64 b.z, .int .i64 b.q, .slice b.A b.n b.c, .int .i64 c.x, .int .i64 c.y, .int .i64 c.z, .int .i64 c.q, .slice c.A c.n c.c, .int .i64 p, .bool f] 36
  have Etr := range_cut X0.1 0 17
  simp only [List.drop_succ_cons, List.drop_zero, List.take_succ_cons, List.take_zero, Nat.zero_add] at Etr
  clear X0
  obtain ⟨M, hM⟩ : ∃ M, maskv a b c x y n = M := ⟨_, rfl⟩
  obtain ⟨T, hT⟩ : ∃ T, Value.agg #[.int .i64 a.x, .int .i64 a.y, .int .i64 a.z, .int .i64 a.q, .slice a.A a.n a.c, .int .i64 b.x, .int .i64 b.y, .int .i64 b.z, .int .i64 b.q, .slice b.A b.n b.c, .int .i64 c.x, .int .i64 c.y, .int .i64 c.z, .int .i64 c.q, .slice c.A c.n c.c, .int .i64 p, .bool f] = T := ⟨_, rfl⟩
  have ca' := fun W => mask_at a b c p f x y n M hM W
  rw [hT] at ca'
  have CA := Lib.hid ca'
  have cb' := fun W => rmask_at a b c p f x y n M hM W
  rw [hT] at cb'
  have CB := Lib.hid cb'
  have CE := Lib.hid (fun W => example35_b W)
  have HT := Lib.hid hT
  clear hM hT ca' cb'
  go_enter Try.func4, Try.ntmps4
  go_wp2_with fail
  refine wp_region_quiet_below (by kernel_rfl) (by kernel_rfl) ?_
  repeat (first | ((try simp only [List.getElem_toArray, List.getElem_cons_succ, List.getElem_cons_zero]); go_big_quiet_want; refine quiet_eloadT _ _ rfl rk_tr rfl (fun W hW => rangeAt_on Etr (below_regrown' hW)) HT.out rfl ?_; go_simp; go_big_quiet_on) | ((try simp only [List.getElem_toArray, List.getElem_cons_succ, List.getElem_cons_zero]); go_big_quiet_want; refine quiet_eload _ _ rfl rk_tr rfl (fun W hW => rangeAt_on Etr (below_regrown' hW)) rfl ?_; go_simp; go_big_quiet_on) | ((try simp only [List.getElem_toArray, List.getElem_cons_succ, List.getElem_cons_zero]); go_big_quiet_step ((first | (go_at_call 20; with_reducible exact Calls.regrown_of (CA.out _)) | (go_at_call 21; with_reducible exact Calls.regrown_of (CB.out _)) | (go_at_call 19; with_reducible exact Calls.regrown_of (CE.out _))))) | ((try simp only [List.getElem_toArray, List.getElem_cons_succ, List.getElem_cons_zero]); quiet_step ((first | (go_at_call 20; with_reducible exact Calls.regrown_of (CA.out _)) | (go_at_call 21; with_reducible exact Calls.regrown_of (CB.out _)) | (go_at_call 19; with_reducible exact Calls.regrown_of (CE.out _))))))
  refine wpQuiet_nil ?_
  intro W9 hw'
  have B9 := below_regrown' hw'
  clear hw'
  replace Etr := rangeAt_on Etr (B9)
  replace BB := bon BB B9
  clear B9
  first
    | (go_wp2; go_ret; exact ⟨rfl, BB⟩)
    | (go_simp; go_ret; exact ⟨rfl, BB⟩)

end Go.Proofs.Ytcnemjkcihlpeaa
