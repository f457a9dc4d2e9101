/- What Average of package resolve and of the reference return. -/
import Derived.Test.YtadndipdkdgkbaaRSMath
import Derived.Test.YtadndipdkdgkbaaMix
import Derived.Test.YtadndipdkdgkbaaSet
namespace Go.Proofs.Ytadndipdkdgkbaa
set_option linter.unusedSimpArgs false
open Go.RowKit Go.Sort Go.ChangeShapes Go.WideShapes
set_option linter.unusedVariables false

theorem rk_v4 : RowK Try.prog 24 4 := ⟨⟨_, Try.underlying24, rfl⟩, by kernel_rfl⟩

theorem rangeAt_one {W : World} {b o : Nat} {vs : List Value} (h : W.rangeAt b o vs) (j : Nat) {v : Value} (hv : vs[j]? = some v) : W.cell? ⟨b, o + j, none⟩ = some v := h j v hv

set_option maxRecDepth 100000 in
set_option maxHeartbeats 4000000 in
theorem avg_many (A : Option Addr) (n c : Nat) (l : List Co) (w : World) (R : RdE cov4 4 w w.heap.size A n l) (hn : n ≤ 9223372036854775807) (h64 : 64 < n) : Calls Try.prog 9 #[.slice A n c] w fun e w' => e = .returned (.agg #[.int .i64 (avv Co.x l), .int .i64 (avv Co.y l), .int .i64 (avv Co.z l), .int .i64 (avv Co.q l)]) ∧ Below w.heap.size w w' := by
  have hl := R.len
  have e0 : ∀ p, avv p l = 0 := fun p => by unfold avv; rw [if_pos (by omega)]
  simp only [e0]
  clear R e0 hl
  have BB := box_below w #[.int .i64 0, .int .i64 0, .int .i64 0, .int .i64 0] 24
  have X0 := EBox.made w #[.int .i64 0, .int .i64 0, .int .i64 0, .int .i64 0] 24
  have r0 := X0.cell (i := 0) rfl
  have r1 := X0.cell (i := 1) rfl
  have r2 := X0.cell (i := 2) rfl
  have r3 := X0.cell (i := 3) rfl
  have XR := X0
  clear X0
  go_enter Try.func9, Try.ntmps9
  go_wp2
  exact bodyPost_ret (by simp [results, Try.results9, go_sem, r0, r1, r2, r3]) rfl ⟨rfl, BB⟩

set_option maxRecDepth 100000 in
set_option maxHeartbeats 8000000 in
theorem avg_few (A : Option Addr) (n c : Nat) (l : List Co) (w : World) (R : RdE cov4 4 w w.heap.size A n l) (h64 : n ≤ 64) : Calls Try.prog 9 #[.slice A n c] w fun e w' => e = .returned (.agg #[.int .i64 (avv Co.x l), .int .i64 (avv Co.y l), .int .i64 (avv Co.z l), .int .i64 (avv Co.q l)]) ∧ Below w.heap.size w w' := by
  have hl := R.len
  have e0 : ∀ p, avv p l = rda (ssum p l) n := fun p => by unfold avv; rw [if_neg (by omega), hl]
  simp only [e0]
  have HR := Lib.hid R
  have HB := Lib.hid (fun (p : Co → Int) (k : Nat) => ssum_small p (l.take k) (by rw [List.length_take]; omega))
  have HE : Hid (l.take n = l) := Lib.hid (by rw [← hl, List.take_length])
  clear R e0 hl
  have BB := box_below w #[.int .i64 0, .int .i64 0, .int .i64 0, .int .i64 0] 24
  have X0 := EBox.made w #[.int .i64 0, .int .i64 0, .int .i64 0, .int .i64 0] 24
  have hsz1 : (w.alloc (.cells #[.int .i64 0, .int .i64 0, .int .i64 0, .int .i64 0] 24)).heap.size = w.heap.size + 1 := by simp
  have X1 := EBox.made (w.alloc (.cells #[.int .i64 0, .int .i64 0, .int .i64 0, .int .i64 0] 24)) #[.int .i64 0, .int .i64 0, .int .i64 0, .int .i64 0] 24
  rw [hsz1] at X1
  replace X0 := X0.on (Nat.succ_pos _) (box_below (w.alloc (.cells #[.int .i64 0, .int .i64 0, .int .i64 0, .int .i64 0] 24)) #[.int .i64 0, .int .i64 0, .int .i64 0, .int .i64 0] 24)
  replace BB := bon BB (box_below (w.alloc (.cells #[.int .i64 0, .int .i64 0, .int .i64 0, .int .i64 0] 24)) #[.int .i64 0, .int .i64 0, .int .i64 0, .int .i64 0] 24)
  clear hsz1
  have XR := X0
  clear X0
  have XS := X1
  clear X1
  go_enter Try.func9, Try.ntmps9
  go_wp2_with fail
  go_loopw [13] (fun i wr => ∃ k : Nat, k ≤ n ∧ i = .int .i64 (k : Int) ∧ Below w.heap.size w wr ∧ EBox wr w.heap.size [.int .i64 0, .int .i64 0, .int .i64 0, .int .i64 0] ∧ EBox wr (w.heap.size + 1) [.int .i64 (ssum Co.x (l.take k)), .int .i64 (ssum Co.y (l.take k)), .int .i64 (ssum Co.z (l.take k)), .int .i64 (ssum Co.q (l.take k))]) (fun i _ => n - (intOf i).toNat)
  case atStart => exact ⟨0, Nat.zero_le _, rfl, BB, XR, XS⟩
  case round =>
    clear BB XR XS
    obtain ⟨k, hk, rfl, BB, XR, XS⟩ := hrel
    rename World => wr
    by_cases hlt : k < n
    · obtain ⟨b, off, ⟨cx, cy, cz, cq⟩, rfl, lb, ha, hx⟩ := (HR.out.below BB).at_ hlt
      have ls := XS.lt (Nat.succ_pos _)
      simp only [cov4] at ha
      have BX := box_below wr #[.int .i64 cx, .int .i64 cy, .int .i64 cz, .int .i64 cq] 24
      have XC := EBox.made wr #[.int .i64 cx, .int .i64 cy, .int .i64 cz, .int .i64 cq] 24
      replace XR := XR.on (Nat.succ_pos _) BX
      replace XS := XS.on (Nat.succ_pos _) BX
      replace BB := bon BB BX
      clear BX
      have HS0 := Lib.hid (ssum_snoc Co.x hx.out)
      have hb0 := HB.out Co.x k
      have hq0 := sat_bd cx
      have cs0 := fun W => saturate_b cx W
      obtain ⟨t0, ht0⟩ : ∃ t, ssum Co.x (l.take k) = t := ⟨_, rfl⟩
      obtain ⟨q0, hq'0⟩ : ∃ t, sat cx = t := ⟨_, rfl⟩
      simp only [ht0, hq'0] at HS0
      rw [ht0] at hb0 XS
      rw [hq'0] at hq0 cs0
      have CS0 := Lib.hid cs0
      obtain ⟨hb0, hB0⟩ := hb0
      obtain ⟨hq0, hQ0⟩ := hq0
      clear cs0 ht0 hq'0
      have HS1 := Lib.hid (ssum_snoc Co.y hx.out)
      have hb1 := HB.out Co.y k
      have hq1 := sat_bd cy
      have cs1 := fun W => saturate_b cy W
      obtain ⟨t1, ht1⟩ : ∃ t, ssum Co.y (l.take k) = t := ⟨_, rfl⟩
      obtain ⟨q1, hq'1⟩ : ∃ t, sat cy = t := ⟨_, rfl⟩
      simp only [ht1, hq'1] at HS1
      rw [ht1] at hb1 XS
      rw [hq'1] at hq1 cs1
      have CS1 := Lib.hid cs1
      obtain ⟨hb1, hB1⟩ := hb1
      obtain ⟨hq1, hQ1⟩ := hq1
      clear cs1 ht1 hq'1
      have HS2 := Lib.hid (ssum_snoc Co.z hx.out)
      have hb2 := HB.out Co.z k
      have hq2 := sat_bd cz
      have cs2 := fun W => saturate_b cz W
      obtain ⟨t2, ht2⟩ : ∃ t, ssum Co.z (l.take k) = t := ⟨_, rfl⟩
      obtain ⟨q2, hq'2⟩ : ∃ t, sat cz = t := ⟨_, rfl⟩
      simp only [ht2, hq'2] at HS2
      rw [ht2] at hb2 XS
      rw [hq'2] at hq2 cs2
      have CS2 := Lib.hid cs2
      obtain ⟨hb2, hB2⟩ := hb2
      obtain ⟨hq2, hQ2⟩ := hq2
      clear cs2 ht2 hq'2
      have HS3 := Lib.hid (ssum_snoc Co.q hx.out)
      have hb3 := HB.out Co.q k
      have hq3 := sat_bd cq
      have cs3 := fun W => saturate_b cq W
      obtain ⟨t3, ht3⟩ : ∃ t, ssum Co.q (l.take k) = t := ⟨_, rfl⟩
      obtain ⟨q3, hq'3⟩ : ∃ t, sat cq = t := ⟨_, rfl⟩
      simp only [ht3, hq'3] at HS3
      rw [ht3] at hb3 XS
      rw [hq'3] at hq3 cs3
      have CS3 := Lib.hid cs3
      obtain ⟨hb3, hB3⟩ := hb3
      obtain ⟨hq3, hQ3⟩ := hq3
      clear cs3 ht3 hq'3
      have s0 := XS.cell (i := 0) rfl
      have e0 := XC.cell (i := 0) rfl
      skip
      go_wp2_with ((with_reducible refine eload4L rk_v4 ha ?_ ?_); focus rfl)
      have k_s0 := cell_regrown s0
      have k_e0 := cell_regrown e0
      refine wp_region_tail (n := 7) (by kernel_rfl) (by kernel_rfl) ?_
      simp only [List.take_succ_cons, List.take_zero, List.drop_succ_cons, List.drop_zero]
      repeat (first | ((try simp only [List.getElem_toArray, List.getElem_cons_succ, List.getElem_cons_zero]); go_big_quiet_step ((first | (go_at_call 23; with_reducible exact Calls.regrown_of (CS0.out _))))) | ((try simp only [List.getElem_toArray, List.getElem_cons_succ, List.getElem_cons_zero]); quiet_step ((first | (go_at_call 23; with_reducible exact Calls.regrown_of (CS0.out _))))))
      refine wpQuiet_nil ?_
      intro W9 hw'
      have B9 := below_regrown' hw'
      clear hw' k_s0 k_e0
      replace s0 := cell_below (B9) s0
      replace e0 := cell_below (B9) e0
      replace XR := XR.on (Nat.succ_pos _) (B9)
      replace XS := XS.on (Nat.succ_pos _) (B9)
      replace XC := XC.on (Nat.succ_pos _) (B9)
      replace BB := bon BB B9
      clear B9
      refine esetCL (i := 0) (v := .int .i64 (t0 + q0)) XS (by simp) rfl rfl rfl rfl (by kernel_rfl) ?_
      intro V0 YS B9 hc9 hf9
      replace XR := XR.keep (by omega) hc9 hf9
      replace XC := XC.keep (by omega) hc9 hf9
      replace BB := BB.trans (B9.mono (by omega))
      simp only [List.set_cons_zero, List.set_cons_succ] at YS
      replace XS := YS
      clear B9 hc9 hf9 s0 e0
      skip
      have s1 := XS.cell (i := 1) rfl
      have e1 := XC.cell (i := 1) rfl
      skip
      go_wp2_with fail
      have k_s1 := cell_regrown s1
      have k_e1 := cell_regrown e1
      refine wp_region_tail (n := 7) (by kernel_rfl) (by kernel_rfl) ?_
      simp only [List.take_succ_cons, List.take_zero, List.drop_succ_cons, List.drop_zero]
      repeat (first | ((try simp only [List.getElem_toArray, List.getElem_cons_succ, List.getElem_cons_zero]); go_big_quiet_step ((first | (go_at_call 23; with_reducible exact Calls.regrown_of (CS1.out _))))) | ((try simp only [List.getElem_toArray, List.getElem_cons_succ, List.getElem_cons_zero]); quiet_step ((first | (go_at_call 23; with_reducible exact Calls.regrown_of (CS1.out _))))))
      refine wpQuiet_nil ?_
      intro W9 hw'
      have B9 := below_regrown' hw'
      clear hw' k_s1 k_e1
      replace s1 := cell_below (B9) s1
      replace e1 := cell_below (B9) e1
      replace XR := XR.on (Nat.succ_pos _) (B9)
      replace XS := XS.on (Nat.succ_pos _) (B9)
      replace XC := XC.on (Nat.succ_pos _) (B9)
      replace BB := bon BB B9
      clear B9
      refine esetCL (i := 1) (v := .int .i64 (t1 + q1)) XS (by simp) rfl rfl rfl rfl (by kernel_rfl) ?_
      intro V1 YS B9 hc9 hf9
      replace XR := XR.keep (by omega) hc9 hf9
      replace XC := XC.keep (by omega) hc9 hf9
      replace BB := BB.trans (B9.mono (by omega))
      simp only [List.set_cons_zero, List.set_cons_succ] at YS
      replace XS := YS
      clear B9 hc9 hf9 s1 e1
      skip
      have s2 := XS.cell (i := 2) rfl
      have e2 := XC.cell (i := 2) rfl
      skip
      go_wp2_with fail
      have k_s2 := cell_regrown s2
      have k_e2 := cell_regrown e2
      refine wp_region_tail (n := 7) (by kernel_rfl) (by kernel_rfl) ?_
      simp only [List.take_succ_cons, List.take_zero, List.drop_succ_cons, List.drop_zero]
      repeat (first | ((try simp only [List.getElem_toArray, List.getElem_cons_succ, List.getElem_cons_zero]); go_big_quiet_step ((first | (go_at_call 23; with_reducible exact Calls.regrown_of (CS2.out _))))) | ((try simp only [List.getElem_toArray, List.getElem_cons_succ, List.getElem_cons_zero]); quiet_step ((first | (go_at_call 23; with_reducible exact Calls.regrown_of (CS2.out _))))))
      refine wpQuiet_nil ?_
      intro W9 hw'
      have B9 := below_regrown' hw'
      clear hw' k_s2 k_e2
      replace s2 := cell_below (B9) s2
      replace e2 := cell_below (B9) e2
      replace XR := XR.on (Nat.succ_pos _) (B9)
      replace XS := XS.on (Nat.succ_pos _) (B9)
      replace XC := XC.on (Nat.succ_pos _) (B9)
      replace BB := bon BB B9
      clear B9
      refine esetCL (i := 2) (v := .int .i64 (t2 + q2)) XS (by simp) rfl rfl rfl rfl (by kernel_rfl) ?_
      intro V2 YS B9 hc9 hf9
      replace XR := XR.keep (by omega) hc9 hf9
      replace XC := XC.keep (by omega) hc9 hf9
      replace BB := BB.trans (B9.mono (by omega))
      simp only [List.set_cons_zero, List.set_cons_succ] at YS
      replace XS := YS
      clear B9 hc9 hf9 s2 e2
      skip
      have s3 := XS.cell (i := 3) rfl
      have e3 := XC.cell (i := 3) rfl
      skip
      go_wp2_with fail
      have k_s3 := cell_regrown s3
      have k_e3 := cell_regrown e3
      refine wp_region_tail (n := 7) (by kernel_rfl) (by kernel_rfl) ?_
      simp only [List.take_succ_cons, List.take_zero, List.drop_succ_cons, List.drop_zero]
      repeat (first | ((try simp only [List.getElem_toArray, List.getElem_cons_succ, List.getElem_cons_zero]); go_big_quiet_step ((first | (go_at_call 23; with_reducible exact Calls.regrown_of (CS3.out _))))) | ((try simp only [List.getElem_toArray, List.getElem_cons_succ, List.getElem_cons_zero]); quiet_step ((first | (go_at_call 23; with_reducible exact Calls.regrown_of (CS3.out _))))))
      refine wpQuiet_nil ?_
      intro W9 hw'
      have B9 := below_regrown' hw'
      clear hw' k_s3 k_e3
      replace s3 := cell_below (B9) s3
      replace e3 := cell_below (B9) e3
      replace XR := XR.on (Nat.succ_pos _) (B9)
      replace XS := XS.on (Nat.succ_pos _) (B9)
      replace XC := XC.on (Nat.succ_pos _) (B9)
      replace BB := bon BB B9
      clear B9
      refine esetCL (i := 3) (v := .int .i64 (t3 + q3)) XS (by simp) rfl rfl rfl rfl (by kernel_rfl) ?_
      intro V3 YS B9 hc9 hf9
      replace XR := XR.keep (by omega) hc9 hf9
      replace XC := XC.keep (by omega) hc9 hf9
      replace BB := BB.trans (B9.mono (by omega))
      simp only [List.set_cons_zero, List.set_cons_succ] at YS
      replace XS := YS
      clear B9 hc9 hf9 s3 e3
      skip
      go_wp2_with fail
      go_roundw
      case rel => exact ⟨k + 1, by omega, by go_num, BB, XR, by rw [HS0.out, HS1.out, HS2.out, HS3.out]; exact XS⟩
      case measure => simp [intOf]; omega
    · obtain rfl : k = n := by omega
      rw [HE.out] at XS
      obtain ⟨hb0, hB0⟩ := HB.out Co.x k
      rw [HE.out] at hb0 hB0
      have s0 := XS.cell (i := 0) rfl
      have cr0 := fun W => rounddiv_b (ssum Co.x l) k W
      obtain ⟨t0, ht0⟩ : ∃ t, ssum Co.x l = t := ⟨_, rfl⟩
      rw [ht0] at hb0 hB0 s0 cr0
      have CR0 := Lib.hid cr0
      have HT0 := Lib.hid ht0
      clear cr0 ht0
      obtain ⟨hb1, hB1⟩ := HB.out Co.y k
      rw [HE.out] at hb1 hB1
      have s1 := XS.cell (i := 1) rfl
      have cr1 := fun W => rounddiv_b (ssum Co.y l) k W
      obtain ⟨t1, ht1⟩ : ∃ t, ssum Co.y l = t := ⟨_, rfl⟩
      rw [ht1] at hb1 hB1 s1 cr1
      have CR1 := Lib.hid cr1
      have HT1 := Lib.hid ht1
      clear cr1 ht1
      obtain ⟨hb2, hB2⟩ := HB.out Co.z k
      rw [HE.out] at hb2 hB2
      have s2 := XS.cell (i := 2) rfl
      have cr2 := fun W => rounddiv_b (ssum Co.z l) k W
      obtain ⟨t2, ht2⟩ : ∃ t, ssum Co.z l = t := ⟨_, rfl⟩
      rw [ht2] at hb2 hB2 s2 cr2
      have CR2 := Lib.hid cr2
      have HT2 := Lib.hid ht2
      clear cr2 ht2
      obtain ⟨hb3, hB3⟩ := HB.out Co.q k
      rw [HE.out] at hb3 hB3
      have s3 := XS.cell (i := 3) rfl
      have cr3 := fun W => rounddiv_b (ssum Co.q l) k W
      obtain ⟨t3, ht3⟩ : ∃ t, ssum Co.q l = t := ⟨_, rfl⟩
      rw [ht3] at hb3 hB3 s3 cr3
      have CR3 := Lib.hid cr3
      have HT3 := Lib.hid ht3
      clear cr3 ht3
      go_wp2_with fail
      have k_s0 := cell_regrown s0
      have k_s1 := cell_regrown s1
      have k_s2 := cell_regrown s2
      have k_s3 := cell_regrown s3
      refine wp_region_tail (n := 17) (by kernel_rfl) (by kernel_rfl) ?_
      simp only [List.take_succ_cons, List.take_zero, List.drop_succ_cons, List.drop_zero]
      repeat (first | ((try simp only [List.getElem_toArray, List.getElem_cons_succ, List.getElem_cons_zero]); go_big_quiet_step ((first | (go_at_call 24; with_reducible exact Calls.regrown_of (CR0.out _)) | (go_at_call 24; with_reducible exact Calls.regrown_of (CR1.out _)) | (go_at_call 24; with_reducible exact Calls.regrown_of (CR2.out _)) | (go_at_call 24; with_reducible exact Calls.regrown_of (CR3.out _))))) | ((try simp only [List.getElem_toArray, List.getElem_cons_succ, List.getElem_cons_zero]); quiet_step ((first | (go_at_call 24; with_reducible exact Calls.regrown_of (CR0.out _)) | (go_at_call 24; with_reducible exact Calls.regrown_of (CR1.out _)) | (go_at_call 24; with_reducible exact Calls.regrown_of (CR2.out _)) | (go_at_call 24; with_reducible exact Calls.regrown_of (CR3.out _))))))
      refine wpQuiet_nil ?_
      intro W9 hw'
      have B9 := below_regrown' hw'
      clear hw' k_s0 k_s1 k_s2 k_s3
      replace s0 := cell_below (B9) s0
      replace s1 := cell_below (B9) s1
      replace s2 := cell_below (B9) s2
      replace s3 := cell_below (B9) s3
      replace XR := XR.on (Nat.succ_pos _) (B9)
      replace BB := bon BB B9
      clear B9
      refine esetL (vs := [.int .i64 (rda t0 k), .int .i64 (rda t1 k), .int .i64 (rda t2 k), .int .i64 (rda t3 k)]) rk_v4 rfl rfl XR rfl rfl (by simp [Value.oneCell']) ?_
      intro V5 YR B9 hc9 hf9
      have r0 := YR.cell (i := 0) rfl
      have r1 := YR.cell (i := 1) rfl
      have r2 := YR.cell (i := 2) rfl
      have r3 := YR.cell (i := 3) rfl
      replace BB := BB.trans B9
      clear B9 hc9 hf9
      go_wp2
      exact bodyPost_ret (v := .agg #[.int .i64 (rda t0 k), .int .i64 (rda t1 k), .int .i64 (rda t2 k), .int .i64 (rda t3 k)]) (by simp [results, Try.results9, go_sem, r0, r1, r2, r3]) rfl ⟨by rw [HT0.out, HT1.out, HT2.out, HT3.out], BB⟩

set_option maxRecDepth 100000 in
set_option maxHeartbeats 4000000 in
theorem ravg_many (A : Option Addr) (n c : Nat) (l : List Co) (w : World) (R : RdE cov4 4 w w.heap.size A n l) (hn : n ≤ 9223372036854775807) (h64 : 64 < n) : Calls Try.prog 10 #[.slice A n c] w fun e w' => e = .returned (.agg #[.int .i64 (avv Co.x l), .int .i64 (avv Co.y l), .int .i64 (avv Co.z l), .int .i64 (avv Co.q l)]) ∧ Below w.heap.size w w' := by
  have hl := R.len
  have e0 : ∀ p, avv p l = 0 := fun p => by unfold avv; rw [if_pos (by omega)]
  simp only [e0]
  clear R e0 hl
  have BB := box_below w #[.int .i64 0, .int .i64 0, .int .i64 0, .int .i64 0] 24
  have X0 := EBox.made w #[.int .i64 0, .int .i64 0, .int .i64 0, .int .i64 0] 24
  have r0 := X0.cell (i := 0) rfl
  have r1 := X0.cell (i := 1) rfl
  have r2 := X0.cell (i := 2) rfl
  have r3 := X0.cell (i := 3) rfl
  have XR := X0
  clear X0
  go_enter Try.func10, Try.ntmps10
  go_wp2
  exact bodyPost_ret (by simp [results, Try.results10, go_sem, r0, r1, r2, r3]) rfl ⟨rfl, BB⟩

set_option maxRecDepth 100000 in
set_option maxHeartbeats 8000000 in
theorem ravg_few (A : Option Addr) (n c : Nat) (l : List Co) (w : World) (R : RdE cov4 4 w w.heap.size A n l) (h64 : n ≤ 64) (h1 : 1 ≤ n) : Calls Try.prog 10 #[.slice A n c] w fun e w' => e = .returned (.agg #[.int .i64 (avv Co.x l), .int .i64 (avv Co.y l), .int .i64 (avv Co.z l), .int .i64 (avv Co.q l)]) ∧ Below w.heap.size w w' := by
  have hl := R.len
  have e0 : ∀ p, avv p l = rda (ssum p l) n := fun p => by unfold avv; rw [if_neg (by omega), hl]
  simp only [e0]
  have HR := Lib.hid R
  have HB := Lib.hid (fun (p : Co → Int) (k : Nat) => ssum_small p (l.take k) (by rw [List.length_take]; omega))
  have HE : Hid (l.take n = l) := Lib.hid (by rw [← hl, List.take_length])
  clear R e0 hl
  have BB := box_below w #[.int .i64 0, .int .i64 0, .int .i64 0, .int .i64 0] 24
  have X0 := EBox.made w #[.int .i64 0, .int .i64 0, .int .i64 0, .int .i64 0] 24
  have hsz1 : (w.alloc (.cells #[.int .i64 0, .int .i64 0, .int .i64 0, .int .i64 0] 24)).heap.size = w.heap.size + 1 := by simp
  have X1 := EBox.made (w.alloc (.cells #[.int .i64 0, .int .i64 0, .int .i64 0, .int .i64 0] 24)) #[.int .i64 0, .int .i64 0, .int .i64 0, .int .i64 0] 24
  rw [hsz1] at X1
  replace X0 := X0.on (Nat.succ_pos _) (box_below (w.alloc (.cells #[.int .i64 0, .int .i64 0, .int .i64 0, .int .i64 0] 24)) #[.int .i64 0, .int .i64 0, .int .i64 0, .int .i64 0] 24)
  replace BB := bon BB (box_below (w.alloc (.cells #[.int .i64 0, .int .i64 0, .int .i64 0, .int .i64 0] 24)) #[.int .i64 0, .int .i64 0, .int .i64 0, .int .i64 0] 24)
  clear hsz1
  have XR := X0
  clear X0
  have XS := X1
  clear X1
  go_enter Try.func10, Try.ntmps10
  go_wp2_with fail
  go_loopw [5] (fun i wr => ∃ k : Nat, k ≤ n ∧ i = .int .i64 (k : Int) ∧ Below w.heap.size w wr ∧ EBox wr w.heap.size [.int .i64 0, .int .i64 0, .int .i64 0, .int .i64 0] ∧ EBox wr (w.heap.size + 1) [.int .i64 (ssum Co.x (l.take k)), .int .i64 (ssum Co.y (l.take k)), .int .i64 (ssum Co.z (l.take k)), .int .i64 (ssum Co.q (l.take k))]) (fun i _ => n - (intOf i).toNat)
  case atStart => exact ⟨0, Nat.zero_le _, rfl, BB, XR, XS⟩
  case round =>
    clear BB XR XS
    obtain ⟨k, hk, rfl, BB, XR, XS⟩ := hrel
    rename World => wr
    by_cases hlt : k < n
    · obtain ⟨b, off, ⟨cx, cy, cz, cq⟩, rfl, lb, ha, hx⟩ := (HR.out.below BB).at_ hlt
      have ls := XS.lt (Nat.succ_pos _)
      simp only [cov4] at ha
      have HS0 := Lib.hid (ssum_snoc Co.x hx.out)
      have hb0 := HB.out Co.x k
      have hq0 := sat_bd cx
      have cs0 := fun W => rsaturate_b cx W
      obtain ⟨t0, ht0⟩ : ∃ t, ssum Co.x (l.take k) = t := ⟨_, rfl⟩
      obtain ⟨q0, hq'0⟩ : ∃ t, sat cx = t := ⟨_, rfl⟩
      simp only [ht0, hq'0] at HS0
      rw [ht0] at hb0 XS
      rw [hq'0] at hq0 cs0
      have CS0 := Lib.hid cs0
      obtain ⟨hb0, hB0⟩ := hb0
      obtain ⟨hq0, hQ0⟩ := hq0
      clear cs0 ht0 hq'0
      have HS1 := Lib.hid (ssum_snoc Co.y hx.out)
      have hb1 := HB.out Co.y k
      have hq1 := sat_bd cy
      have cs1 := fun W => rsaturate_b cy W
      obtain ⟨t1, ht1⟩ : ∃ t, ssum Co.y (l.take k) = t := ⟨_, rfl⟩
      obtain ⟨q1, hq'1⟩ : ∃ t, sat cy = t := ⟨_, rfl⟩
      simp only [ht1, hq'1] at HS1
      rw [ht1] at hb1 XS
      rw [hq'1] at hq1 cs1
      have CS1 := Lib.hid cs1
      obtain ⟨hb1, hB1⟩ := hb1
      obtain ⟨hq1, hQ1⟩ := hq1
      clear cs1 ht1 hq'1
      have HS2 := Lib.hid (ssum_snoc Co.z hx.out)
      have hb2 := HB.out Co.z k
      have hq2 := sat_bd cz
      have cs2 := fun W => rsaturate_b cz W
      obtain ⟨t2, ht2⟩ : ∃ t, ssum Co.z (l.take k) = t := ⟨_, rfl⟩
      obtain ⟨q2, hq'2⟩ : ∃ t, sat cz = t := ⟨_, rfl⟩
      simp only [ht2, hq'2] at HS2
      rw [ht2] at hb2 XS
      rw [hq'2] at hq2 cs2
      have CS2 := Lib.hid cs2
      obtain ⟨hb2, hB2⟩ := hb2
      obtain ⟨hq2, hQ2⟩ := hq2
      clear cs2 ht2 hq'2
      have HS3 := Lib.hid (ssum_snoc Co.q hx.out)
      have hb3 := HB.out Co.q k
      have hq3 := sat_bd cq
      have cs3 := fun W => rsaturate_b cq W
      obtain ⟨t3, ht3⟩ : ∃ t, ssum Co.q (l.take k) = t := ⟨_, rfl⟩
      obtain ⟨q3, hq'3⟩ : ∃ t, sat cq = t := ⟨_, rfl⟩
      simp only [ht3, hq'3] at HS3
      rw [ht3] at hb3 XS
      rw [hq'3] at hq3 cs3
      have CS3 := Lib.hid cs3
      obtain ⟨hb3, hB3⟩ := hb3
      obtain ⟨hq3, hQ3⟩ := hq3
      clear cs3 ht3 hq'3
      have s0 := XS.cell (i := 0) rfl
      have e0 := rangeAt_one ha 0 rfl
      simp only [Nat.add_zero] at e0
      go_wp2_with fail
      have k_s0 := cell_regrown s0
      have k_e0 := cell_regrown e0
      refine wp_region_tail (n := 10) (by kernel_rfl) (by kernel_rfl) ?_
      simp only [List.take_succ_cons, List.take_zero, List.drop_succ_cons, List.drop_zero]
      repeat (first | ((try simp only [List.getElem_toArray, List.getElem_cons_succ, List.getElem_cons_zero]); go_big_quiet_want; refine quiet_eload _ _ rfl rk_a rfl (fun W hW => rangeAt_on ha (below_regrown' hW)) rfl ?_; go_simp; go_big_quiet_on) | ((try simp only [List.getElem_toArray, List.getElem_cons_succ, List.getElem_cons_zero]); go_big_quiet_step ((first | (go_at_call 25; with_reducible exact Calls.regrown_of (CS0.out _))))) | ((try simp only [List.getElem_toArray, List.getElem_cons_succ, List.getElem_cons_zero]); quiet_step ((first | (go_at_call 25; with_reducible exact Calls.regrown_of (CS0.out _))))))
      refine wpQuiet_nil ?_
      intro W9 hw'
      have B9 := below_regrown' hw'
      clear hw' k_s0 k_e0
      replace ha := rangeAt_on ha (B9)
      replace s0 := cell_below (B9) s0
      replace e0 := cell_below (B9) e0
      replace XR := XR.on (Nat.succ_pos _) (B9)
      replace XS := XS.on (Nat.succ_pos _) (B9)
      replace BB := bon BB B9
      clear B9
      refine esetCL (i := 0) (v := .int .i64 (t0 + q0)) XS (by simp) rfl rfl rfl rfl (by kernel_rfl) ?_
      intro V0 YS B9 hc9 hf9
      replace XR := XR.keep (by omega) hc9 hf9
      replace ha := rangeAt_below ha (Nat.lt_succ_of_lt lb) B9
      replace BB := BB.trans (B9.mono (by omega))
      simp only [List.set_cons_zero, List.set_cons_succ] at YS
      replace XS := YS
      clear B9 hc9 hf9 s0 e0
      skip
      have s1 := XS.cell (i := 1) rfl
      have e1 := rangeAt_one ha 1 rfl
      skip
      go_wp2_with fail
      have k_s1 := cell_regrown s1
      have k_e1 := cell_regrown e1
      refine wp_region_tail (n := 10) (by kernel_rfl) (by kernel_rfl) ?_
      simp only [List.take_succ_cons, List.take_zero, List.drop_succ_cons, List.drop_zero]
      repeat (first | ((try simp only [List.getElem_toArray, List.getElem_cons_succ, List.getElem_cons_zero]); go_big_quiet_want; refine quiet_eload _ _ rfl rk_a rfl (fun W hW => rangeAt_on ha (below_regrown' hW)) rfl ?_; go_simp; go_big_quiet_on) | ((try simp only [List.getElem_toArray, List.getElem_cons_succ, List.getElem_cons_zero]); go_big_quiet_step ((first | (go_at_call 25; with_reducible exact Calls.regrown_of (CS1.out _))))) | ((try simp only [List.getElem_toArray, List.getElem_cons_succ, List.getElem_cons_zero]); quiet_step ((first | (go_at_call 25; with_reducible exact Calls.regrown_of (CS1.out _))))))
      refine wpQuiet_nil ?_
      intro W9 hw'
      have B9 := below_regrown' hw'
      clear hw' k_s1 k_e1
      replace ha := rangeAt_on ha (B9)
      replace s1 := cell_below (B9) s1
      replace e1 := cell_below (B9) e1
      replace XR := XR.on (Nat.succ_pos _) (B9)
      replace XS := XS.on (Nat.succ_pos _) (B9)
      replace BB := bon BB B9
      clear B9
      refine esetCL (i := 1) (v := .int .i64 (t1 + q1)) XS (by simp) rfl rfl rfl rfl (by kernel_rfl) ?_
      intro V1 YS B9 hc9 hf9
      replace XR := XR.keep (by omega) hc9 hf9
      replace ha := rangeAt_below ha (Nat.lt_succ_of_lt lb) B9
      replace BB := BB.trans (B9.mono (by omega))
      simp only [List.set_cons_zero, List.set_cons_succ] at YS
      replace XS := YS
      clear B9 hc9 hf9 s1 e1
      skip
      have s2 := XS.cell (i := 2) rfl
      have e2 := rangeAt_one ha 2 rfl
      skip
      go_wp2_with fail
      have k_s2 := cell_regrown s2
      have k_e2 := cell_regrown e2
      refine wp_region_tail (n := 10) (by kernel_rfl) (by kernel_rfl) ?_
      simp only [List.take_succ_cons, List.take_zero, List.drop_succ_cons, List.drop_zero]
      repeat (first | ((try simp only [List.getElem_toArray, List.getElem_cons_succ, List.getElem_cons_zero]); go_big_quiet_want; refine quiet_eload _ _ rfl rk_a rfl (fun W hW => rangeAt_on ha (below_regrown' hW)) rfl ?_; go_simp; go_big_quiet_on) | ((try simp only [List.getElem_toArray, List.getElem_cons_succ, List.getElem_cons_zero]); go_big_quiet_step ((first | (go_at_call 25; with_reducible exact Calls.regrown_of (CS2.out _))))) | ((try simp only [List.getElem_toArray, List.getElem_cons_succ, List.getElem_cons_zero]); quiet_step ((first | (go_at_call 25; with_reducible exact Calls.regrown_of (CS2.out _))))))
      refine wpQuiet_nil ?_
      intro W9 hw'
      have B9 := below_regrown' hw'
      clear hw' k_s2 k_e2
      replace ha := rangeAt_on ha (B9)
      replace s2 := cell_below (B9) s2
      replace e2 := cell_below (B9) e2
      replace XR := XR.on (Nat.succ_pos _) (B9)
      replace XS := XS.on (Nat.succ_pos _) (B9)
      replace BB := bon BB B9
      clear B9
      refine esetCL (i := 2) (v := .int .i64 (t2 + q2)) XS (by simp) rfl rfl rfl rfl (by kernel_rfl) ?_
      intro V2 YS B9 hc9 hf9
      replace XR := XR.keep (by omega) hc9 hf9
      replace ha := rangeAt_below ha (Nat.lt_succ_of_lt lb) B9
      replace BB := BB.trans (B9.mono (by omega))
      simp only [List.set_cons_zero, List.set_cons_succ] at YS
      replace XS := YS
      clear B9 hc9 hf9 s2 e2
      skip
      have s3 := XS.cell (i := 3) rfl
      have e3 := rangeAt_one ha 3 rfl
      skip
      go_wp2_with fail
      have k_s3 := cell_regrown s3
      have k_e3 := cell_regrown e3
      refine wp_region_tail (n := 10) (by kernel_rfl) (by kernel_rfl) ?_
      simp only [List.take_succ_cons, List.take_zero, List.drop_succ_cons, List.drop_zero]
      repeat (first | ((try simp only [List.getElem_toArray, List.getElem_cons_succ, List.getElem_cons_zero]); go_big_quiet_want; refine quiet_eload _ _ rfl rk_a rfl (fun W hW => rangeAt_on ha (below_regrown' hW)) rfl ?_; go_simp; go_big_quiet_on) | ((try simp only [List.getElem_toArray, List.getElem_cons_succ, List.getElem_cons_zero]); go_big_quiet_step ((first | (go_at_call 25; with_reducible exact Calls.regrown_of (CS3.out _))))) | ((try simp only [List.getElem_toArray, List.getElem_cons_succ, List.getElem_cons_zero]); quiet_step ((first | (go_at_call 25; with_reducible exact Calls.regrown_of (CS3.out _))))))
      refine wpQuiet_nil ?_
      intro W9 hw'
      have B9 := below_regrown' hw'
      clear hw' k_s3 k_e3
      replace ha := rangeAt_on ha (B9)
      replace s3 := cell_below (B9) s3
      replace e3 := cell_below (B9) e3
      replace XR := XR.on (Nat.succ_pos _) (B9)
      replace XS := XS.on (Nat.succ_pos _) (B9)
      replace BB := bon BB B9
      clear B9
      refine esetCL (i := 3) (v := .int .i64 (t3 + q3)) XS (by simp) rfl rfl rfl rfl (by kernel_rfl) ?_
      intro V3 YS B9 hc9 hf9
      replace XR := XR.keep (by omega) hc9 hf9
      replace ha := rangeAt_below ha (Nat.lt_succ_of_lt lb) B9
      replace BB := BB.trans (B9.mono (by omega))
      simp only [List.set_cons_zero, List.set_cons_succ] at YS
      replace XS := YS
      clear B9 hc9 hf9 s3 e3
      skip
      go_wp2_with fail
      go_roundw
      case rel => exact ⟨k + 1, by omega, by go_num, BB, XR, by rw [HS0.out, HS1.out, HS2.out, HS3.out]; exact XS⟩
      case measure => simp [intOf]; omega
    · obtain rfl : k = n := by omega
      rw [HE.out] at XS
      obtain ⟨hb0, hB0⟩ := HB.out Co.x k
      rw [HE.out] at hb0 hB0
      have s0 := XS.cell (i := 0) rfl
      have cr0 := fun W => rrounddiv_b (ssum Co.x l) k W
      obtain ⟨t0, ht0⟩ : ∃ t, ssum Co.x l = t := ⟨_, rfl⟩
      rw [ht0] at hb0 hB0 s0 cr0
      have CR0 := Lib.hid cr0
      have HT0 := Lib.hid ht0
      clear cr0 ht0
      obtain ⟨hb1, hB1⟩ := HB.out Co.y k
      rw [HE.out] at hb1 hB1
      have s1 := XS.cell (i := 1) rfl
      have cr1 := fun W => rrounddiv_b (ssum Co.y l) k W
      obtain ⟨t1, ht1⟩ : ∃ t, ssum Co.y l = t := ⟨_, rfl⟩
      rw [ht1] at hb1 hB1 s1 cr1
      have CR1 := Lib.hid cr1
      have HT1 := Lib.hid ht1
      clear cr1 ht1
      obtain ⟨hb2, hB2⟩ := HB.out Co.z k
      rw [HE.out] at hb2 hB2
      have s2 := XS.cell (i := 2) rfl
      have cr2 := fun W => rrounddiv_b (ssum Co.z l) k W
      obtain ⟨t2, ht2⟩ : ∃ t, ssum Co.z l = t := ⟨_, rfl⟩
      rw [ht2] at hb2 hB2 s2 cr2
      have CR2 := Lib.hid cr2
      have HT2 := Lib.hid ht2
      clear cr2 ht2
      obtain ⟨hb3, hB3⟩ := HB.out Co.q k
      rw [HE.out] at hb3 hB3
      have s3 := XS.cell (i := 3) rfl
      have cr3 := fun W => rrounddiv_b (ssum Co.q l) k W
      obtain ⟨t3, ht3⟩ : ∃ t, ssum Co.q l = t := ⟨_, rfl⟩
      rw [ht3] at hb3 hB3 s3 cr3
      have CR3 := Lib.hid cr3
      have HT3 := Lib.hid ht3
      clear cr3 ht3
      go_wp2_with fail
      have k_s0 := cell_regrown s0
      have k_s1 := cell_regrown s1
      have k_s2 := cell_regrown s2
      have k_s3 := cell_regrown s3
      refine wp_region_tail (n := 17) (by kernel_rfl) (by kernel_rfl) ?_
      simp only [List.take_succ_cons, List.take_zero, List.drop_succ_cons, List.drop_zero]
      repeat (first | ((try simp only [List.getElem_toArray, List.getElem_cons_succ, List.getElem_cons_zero]); go_big_quiet_step ((first | (go_at_call 26; with_reducible exact Calls.regrown_of (CR0.out _)) | (go_at_call 26; with_reducible exact Calls.regrown_of (CR1.out _)) | (go_at_call 26; with_reducible exact Calls.regrown_of (CR2.out _)) | (go_at_call 26; with_reducible exact Calls.regrown_of (CR3.out _))))) | ((try simp only [List.getElem_toArray, List.getElem_cons_succ, List.getElem_cons_zero]); quiet_step ((first | (go_at_call 26; with_reducible exact Calls.regrown_of (CR0.out _)) | (go_at_call 26; with_reducible exact Calls.regrown_of (CR1.out _)) | (go_at_call 26; with_reducible exact Calls.regrown_of (CR2.out _)) | (go_at_call 26; with_reducible exact Calls.regrown_of (CR3.out _))))))
      refine wpQuiet_nil ?_
      intro W9 hw'
      have B9 := below_regrown' hw'
      clear hw' k_s0 k_s1 k_s2 k_s3
      replace s0 := cell_below (B9) s0
      replace s1 := cell_below (B9) s1
      replace s2 := cell_below (B9) s2
      replace s3 := cell_below (B9) s3
      replace XR := XR.on (Nat.succ_pos _) (B9)
      replace BB := bon BB B9
      clear B9
      refine esetL (vs := [.int .i64 (rda t0 k), .int .i64 (rda t1 k), .int .i64 (rda t2 k), .int .i64 (rda t3 k)]) rk_v4 rfl rfl XR rfl rfl (by simp [Value.oneCell']) ?_
      intro V5 YR B9 hc9 hf9
      have r0 := YR.cell (i := 0) rfl
      have r1 := YR.cell (i := 1) rfl
      have r2 := YR.cell (i := 2) rfl
      have r3 := YR.cell (i := 3) rfl
      replace BB := BB.trans B9
      clear B9 hc9 hf9
      go_wp2
      exact bodyPost_ret (v := .agg #[.int .i64 (rda t0 k), .int .i64 (rda t1 k), .int .i64 (rda t2 k), .int .i64 (rda t3 k)]) (by simp [results, Try.results10, go_sem, r0, r1, r2, r3]) rfl ⟨by rw [HT0.out, HT1.out, HT2.out, HT3.out], BB⟩

theorem avg_b (A : Option Addr) (n c : Nat) (l : List Co) (w : World) (R : RdE cov4 4 w w.heap.size A n l) (hn : n ≤ 9223372036854775807) : Calls Try.prog 9 #[.slice A n c] w fun e w' => e = .returned (.agg #[.int .i64 (avv Co.x l), .int .i64 (avv Co.y l), .int .i64 (avv Co.z l), .int .i64 (avv Co.q l)]) ∧ Below w.heap.size w w' := by
  by_cases h : 64 < n
  · exact avg_many A n c l w R hn h
  · exact avg_few A n c l w R (by omega)

set_option maxRecDepth 100000 in
theorem ravg_none (A : Option Addr) (c : Nat) (w : World) : Calls Try.prog 10 #[.slice A 0 c] w fun e w' => e = .returned (.agg #[.int .i64 0, .int .i64 0, .int .i64 0, .int .i64 0]) ∧ Below w.heap.size w w' := by
  have BB := box_below w #[.int .i64 0, .int .i64 0, .int .i64 0, .int .i64 0] 24
  have X0 := EBox.made w #[.int .i64 0, .int .i64 0, .int .i64 0, .int .i64 0] 24
  have r0 := X0.cell (i := 0) rfl
  have r1 := X0.cell (i := 1) rfl
  have r2 := X0.cell (i := 2) rfl
  have r3 := X0.cell (i := 3) rfl
  have XR := X0
  clear X0
  go_enter Try.func10, Try.ntmps10
  go_wp2
  exact bodyPost_ret (by simp [results, Try.results10, go_sem, r0, r1, r2, r3]) rfl ⟨rfl, BB⟩

theorem ravg_b (A : Option Addr) (n c : Nat) (l : List Co) (w : World) (R : RdE cov4 4 w w.heap.size A n l) (hn : n ≤ 9223372036854775807) : Calls Try.prog 10 #[.slice A n c] w fun e w' => e = .returned (.agg #[.int .i64 (avv Co.x l), .int .i64 (avv Co.y l), .int .i64 (avv Co.z l), .int .i64 (avv Co.q l)]) ∧ Below w.heap.size w w' := by
  by_cases h : 64 < n
  · exact ravg_many A n c l w R hn h
  by_cases h1 : 1 ≤ n
  · exact ravg_few A n c l w R (by omega) h1
  · obtain rfl : n = 0 := by omega
    obtain rfl : l = [] := List.eq_nil_of_length_eq_zero R.len
    simp only [avv_nil]
    exact ravg_none A c w

end Go.Proofs.Ytadndipdkdgkbaa
