/- The walk of IsaFormats. -/
import Derived.Test.YtnhnbblplnhmlaaDoorU10
import Derived.Test.YtnhnbblplnhmlaaDoorUR6
import Derived.Test.YtnhnbblplnhmlaaDoorUR7
namespace Go.Proofs.YtnhnbblplnhmlaaDoor
set_option linter.unusedSimpArgs false
open Go.RowKit Go.Sort Go.ChangeShapes Go.WideShapes
set_option linter.unusedVariables false

set_option maxRecDepth 100000 in
set_option maxHeartbeats 4000000 in
theorem formats_walk (p q : Pr) (A A2 : Option Addr) (n n2 c cc : Nat) (w : World) (LL : Lay6 w) (R1 : RdE inC 6 w w.heap.size A n p.cd) (R2 : RdE inC 6 w w.heap.size A2 n2 q.cd) (hp : ∀ x ∈ p.cd, x.wf) (hn : n ≤ 9223372036854775807) (hn2 : n2 ≤ 9223372036854775807) :
    Calls Tryd.prog 5 #[.agg (prA p A n c), .agg (prA q A2 n2 cc)] w fun e w' => e = .returned (.bool true) ∧ Below w.heap.size w w' := by
  have K1 := Lib.hid R1
  have K2 := Lib.hid R2
  have HW := Lib.hid hp
  have HL := Lib.hid LL
  have HB := Lib.hid (boxPP w p q A A2 n n2 c cc 31 rfl)
  have HE : Hid (((w.alloc (.cells (prA p A n c) 31)).alloc (.cells (prA q A2 n2 cc) 31)).rangeAt w.heap.size 0 (prA p A n c).toList ∧ ((w.alloc (.cells (prA p A n c) 31)).alloc (.cells (prA q A2 n2 cc) 31)).rangeAt (w.heap.size + 1) 0 (prA q A2 n2 cc).toList) := Lib.hid (by
    have h1 := rangeAt_on (rngP w p A n c 31) (box_below (w.alloc (.cells (prA p A n c) 31)) (prA q A2 n2 cc) 31)
    have h2 := rngP (w.alloc (.cells (prA p A n c) 31)) q A2 n2 cc 31
    have e : (w.alloc (.cells (prA p A n c) 31)).heap.size = w.heap.size + 1 := by simp
    rw [e] at h2
    exact ⟨h1, h2⟩)
  clear R1 R2 hp LL
  obtain ⟨a0, a1, a2, a3, a4, a5, a6, a7, d0, d1, d2, d3, d4, d5, d6, d7, BB⟩ := HB.out
  clear HB a0 a1 a2 a3 a4 a5 a6 d0 d1 d2 d3 d4 d5 d6
  by_cases h1 : 1000 < n
  · clear HE
    go_enter Tryd.func5, Tryd.ntmps5
    go_wp2_with (go_at_call 17; (with_reducible refine (example_b _ (HL.out.on BB)).mono ?_); rintro _ _ ⟨rfl, B⟩; replace BB := bon BB B; clear B)
    go_ret
    exact ⟨rfl, BB⟩
  by_cases h2 : 1000 < n2
  · clear HE
    go_enter Tryd.func5, Tryd.ntmps5
    go_wp2_with (go_at_call 17; (with_reducible refine (example_b _ (HL.out.on BB)).mono ?_); rintro _ _ ⟨rfl, B⟩; replace BB := bon BB B; clear B)
    go_ret
    exact ⟨rfl, BB⟩
  have g1 : decide ((n : Int) > 1000) = false := by simp; omega
  have g2 : decide ((n2 : Int) > 1000) = false := by simp; omega
  go_enter Tryd.func5, Tryd.ntmps5
  go_wp2
  obtain ⟨U, hU⟩ : ∃ U, (w.alloc (.cells (prA p A n c) 31)).alloc (.cells (prA q A2 n2 cc) 31) = U := ⟨_, rfl⟩
  rw [hU] at a7 BB HE ⊢
  clear hU d7
  have Epr_1 := HE.out.1
  have Epr_2 := HE.out.2
  go_loopw [20] (fun i wr => ∃ k : Nat, k ≤ n ∧ i = .int .i64 k ∧ wr.cell? ⟨w.heap.size, 7, none⟩ = some (.slice A n c) ∧ wr.rangeAt w.heap.size 0 (prA p A n c).toList ∧ wr.rangeAt (w.heap.size + 1) 0 (prA q A2 n2 cc).toList ∧ Below w.heap.size w wr) (fun i _ => n - (intOf i).toNat)
  case atStart => exact ⟨0, Nat.zero_le _, rfl, a7, Epr_1, Epr_2, BB⟩
  case round =>
    clear a7 Epr_1 Epr_2 BB HE
    obtain ⟨k, hk, rfl, a7, Epr_1, Epr_2, BB⟩ := hrel
    rename World => wr
    by_cases hlt : k < n
    · obtain ⟨b1, o1, x, rfl, l1, q1, hx⟩ := (K1.out.below BB).at_ hlt
      have Ein_1 : wr.rangeAt b1 (o1 + k * 6) [.int .i64 x.o, .int .i64 x.d, .int .i64 x.a, .int .i64 x.b, .int .i64 x.c, .int .i64 x.i] := q1
      clear q1
      have hxw : x.wf := HW.out x (List.mem_of_getElem? hx.out)
      have CU := Lib.hid (fun W => uses_b x W hxw)
      have CR := Lib.hid (fun W => ruses_b x W hxw)
      have hul := uses_len x
      obtain ⟨V, hV⟩ : ∃ V, uses x = V := ⟨_, rfl⟩
      rw [hV] at CU CR hul
      clear hV hx hxw
      go_wp2_with fail
      refine wp_region_grow [0, 1, 2, 3, 4, 6, 7, 8, 9, 10, 5, 11, 12, 13] (by kernel_rfl) (by kernel_rfl) ?_
      intro W B
      replace BB := bon BB B
      replace a7 := cell_below B a7
      replace Epr_1 := rangeAt_on Epr_1 B
      replace Epr_2 := rangeAt_on Epr_2 B
      replace Ein_1 := rangeAt_on Ein_1 B
      clear B
      have k_a7 := cell_regrown a7
      refine grow_read rfl rfl ?_
      (first | ((try simp only [List.getElem_toArray, List.getElem_cons_succ, List.getElem_cons_zero]); go_big_quiet_want; refine quiet_eload _ _ rfl rk_pr rfl (fun W hW => rangeAt_on Epr_1 (below_regrown' hW)) rfl ?_; go_simp; go_big_quiet_on) | ((try simp only [List.getElem_toArray, List.getElem_cons_succ, List.getElem_cons_zero]); go_big_quiet_want; refine quiet_eload _ _ rfl rk_pr rfl (fun W hW => rangeAt_on Epr_2 (below_regrown' hW)) rfl ?_; go_simp; go_big_quiet_on) | ((try simp only [List.getElem_toArray, List.getElem_cons_succ, List.getElem_cons_zero]); go_big_quiet_want; refine quiet_eload _ _ rfl rk_in rfl (fun W hW => rangeAt_on Ein_1 (below_regrown' hW)) rfl ?_; go_simp; go_big_quiet_on) | go_big_quiet_step (fail) | quiet_step (fail))
      refine wpQuiet_nil ?_
      refine grow_read rfl rfl ?_
      (first | ((try simp only [List.getElem_toArray, List.getElem_cons_succ, List.getElem_cons_zero]); go_big_quiet_want; refine quiet_eload _ _ rfl rk_pr rfl (fun W hW => rangeAt_on Epr_1 (below_regrown' hW)) rfl ?_; go_simp; go_big_quiet_on) | ((try simp only [List.getElem_toArray, List.getElem_cons_succ, List.getElem_cons_zero]); go_big_quiet_want; refine quiet_eload _ _ rfl rk_pr rfl (fun W hW => rangeAt_on Epr_2 (below_regrown' hW)) rfl ?_; go_simp; go_big_quiet_on) | ((try simp only [List.getElem_toArray, List.getElem_cons_succ, List.getElem_cons_zero]); go_big_quiet_want; refine quiet_eload _ _ rfl rk_in rfl (fun W hW => rangeAt_on Ein_1 (below_regrown' hW)) rfl ?_; go_simp; go_big_quiet_on) | go_big_quiet_step (fail) | quiet_step (fail))
      refine wpQuiet_nil ?_
      refine grow_read rfl rfl ?_
      (first | ((try simp only [List.getElem_toArray, List.getElem_cons_succ, List.getElem_cons_zero]); go_big_quiet_want; refine quiet_eload _ _ rfl rk_pr rfl (fun W hW => rangeAt_on Epr_1 (below_regrown' hW)) rfl ?_; go_simp; go_big_quiet_on) | ((try simp only [List.getElem_toArray, List.getElem_cons_succ, List.getElem_cons_zero]); go_big_quiet_want; refine quiet_eload _ _ rfl rk_pr rfl (fun W hW => rangeAt_on Epr_2 (below_regrown' hW)) rfl ?_; go_simp; go_big_quiet_on) | ((try simp only [List.getElem_toArray, List.getElem_cons_succ, List.getElem_cons_zero]); go_big_quiet_want; refine quiet_eload _ _ rfl rk_in rfl (fun W hW => rangeAt_on Ein_1 (below_regrown' hW)) rfl ?_; go_simp; go_big_quiet_on) | go_big_quiet_step (fail) | quiet_step (fail))
      refine wpQuiet_nil ?_
      refine grow_read rfl rfl ?_
      (first | ((try simp only [List.getElem_toArray, List.getElem_cons_succ, List.getElem_cons_zero]); go_big_quiet_want; refine quiet_eload _ _ rfl rk_pr rfl (fun W hW => rangeAt_on Epr_1 (below_regrown' hW)) rfl ?_; go_simp; go_big_quiet_on) | ((try simp only [List.getElem_toArray, List.getElem_cons_succ, List.getElem_cons_zero]); go_big_quiet_want; refine quiet_eload _ _ rfl rk_pr rfl (fun W hW => rangeAt_on Epr_2 (below_regrown' hW)) rfl ?_; go_simp; go_big_quiet_on) | ((try simp only [List.getElem_toArray, List.getElem_cons_succ, List.getElem_cons_zero]); go_big_quiet_want; refine quiet_eload _ _ rfl rk_in rfl (fun W hW => rangeAt_on Ein_1 (below_regrown' hW)) rfl ?_; go_simp; go_big_quiet_on) | go_big_quiet_step (fail) | quiet_step (fail))
      refine wpQuiet_nil ?_
      refine grow_read rfl rfl ?_
      (first | ((try simp only [List.getElem_toArray, List.getElem_cons_succ, List.getElem_cons_zero]); go_big_quiet_want; refine quiet_eload _ _ rfl rk_pr rfl (fun W hW => rangeAt_on Epr_1 (below_regrown' hW)) rfl ?_; go_simp; go_big_quiet_on) | ((try simp only [List.getElem_toArray, List.getElem_cons_succ, List.getElem_cons_zero]); go_big_quiet_want; refine quiet_eload _ _ rfl rk_pr rfl (fun W hW => rangeAt_on Epr_2 (below_regrown' hW)) rfl ?_; go_simp; go_big_quiet_on) | ((try simp only [List.getElem_toArray, List.getElem_cons_succ, List.getElem_cons_zero]); go_big_quiet_want; refine quiet_eload _ _ rfl rk_in rfl (fun W hW => rangeAt_on Ein_1 (below_regrown' hW)) rfl ?_; go_simp; go_big_quiet_on) | go_big_quiet_step (fail) | quiet_step (fail))
      refine wpQuiet_nil ?_
      refine grow_read rfl rfl ?_
      (first | ((try simp only [List.getElem_toArray, List.getElem_cons_succ, List.getElem_cons_zero]); go_big_quiet_want; refine quiet_eload _ _ rfl rk_pr rfl (fun W hW => rangeAt_on Epr_1 (below_regrown' hW)) rfl ?_; go_simp; go_big_quiet_on) | ((try simp only [List.getElem_toArray, List.getElem_cons_succ, List.getElem_cons_zero]); go_big_quiet_want; refine quiet_eload _ _ rfl rk_pr rfl (fun W hW => rangeAt_on Epr_2 (below_regrown' hW)) rfl ?_; go_simp; go_big_quiet_on) | ((try simp only [List.getElem_toArray, List.getElem_cons_succ, List.getElem_cons_zero]); go_big_quiet_want; refine quiet_eload _ _ rfl rk_in rfl (fun W hW => rangeAt_on Ein_1 (below_regrown' hW)) rfl ?_; go_simp; go_big_quiet_on) | go_big_quiet_step (fail) | quiet_step (fail))
      refine wpQuiet_nil ?_
      refine grow_read rfl rfl ?_
      (first | ((try simp only [List.getElem_toArray, List.getElem_cons_succ, List.getElem_cons_zero]); go_big_quiet_want; refine quiet_eload _ _ rfl rk_pr rfl (fun W hW => rangeAt_on Epr_1 (below_regrown' hW)) rfl ?_; go_simp; go_big_quiet_on) | ((try simp only [List.getElem_toArray, List.getElem_cons_succ, List.getElem_cons_zero]); go_big_quiet_want; refine quiet_eload _ _ rfl rk_pr rfl (fun W hW => rangeAt_on Epr_2 (below_regrown' hW)) rfl ?_; go_simp; go_big_quiet_on) | ((try simp only [List.getElem_toArray, List.getElem_cons_succ, List.getElem_cons_zero]); go_big_quiet_want; refine quiet_eload _ _ rfl rk_in rfl (fun W hW => rangeAt_on Ein_1 (below_regrown' hW)) rfl ?_; go_simp; go_big_quiet_on) | go_big_quiet_step (fail) | quiet_step (fail))
      refine wpQuiet_nil ?_
      refine grow_read rfl rfl ?_
      (first | ((try simp only [List.getElem_toArray, List.getElem_cons_succ, List.getElem_cons_zero]); go_big_quiet_want; refine quiet_eload _ _ rfl rk_pr rfl (fun W hW => rangeAt_on Epr_1 (below_regrown' hW)) rfl ?_; go_simp; go_big_quiet_on) | ((try simp only [List.getElem_toArray, List.getElem_cons_succ, List.getElem_cons_zero]); go_big_quiet_want; refine quiet_eload _ _ rfl rk_pr rfl (fun W hW => rangeAt_on Epr_2 (below_regrown' hW)) rfl ?_; go_simp; go_big_quiet_on) | ((try simp only [List.getElem_toArray, List.getElem_cons_succ, List.getElem_cons_zero]); go_big_quiet_want; refine quiet_eload _ _ rfl rk_in rfl (fun W hW => rangeAt_on Ein_1 (below_regrown' hW)) rfl ?_; go_simp; go_big_quiet_on) | go_big_quiet_step (fail) | quiet_step (fail))
      refine wpQuiet_nil ?_
      refine grow_read rfl rfl ?_
      (first | ((try simp only [List.getElem_toArray, List.getElem_cons_succ, List.getElem_cons_zero]); go_big_quiet_want; refine quiet_eload _ _ rfl rk_pr rfl (fun W hW => rangeAt_on Epr_1 (below_regrown' hW)) rfl ?_; go_simp; go_big_quiet_on) | ((try simp only [List.getElem_toArray, List.getElem_cons_succ, List.getElem_cons_zero]); go_big_quiet_want; refine quiet_eload _ _ rfl rk_pr rfl (fun W hW => rangeAt_on Epr_2 (below_regrown' hW)) rfl ?_; go_simp; go_big_quiet_on) | ((try simp only [List.getElem_toArray, List.getElem_cons_succ, List.getElem_cons_zero]); go_big_quiet_want; refine quiet_eload _ _ rfl rk_in rfl (fun W hW => rangeAt_on Ein_1 (below_regrown' hW)) rfl ?_; go_simp; go_big_quiet_on) | go_big_quiet_step (fail) | quiet_step (fail))
      refine wpQuiet_nil ?_
      refine grow_read rfl rfl ?_
      (first | ((try simp only [List.getElem_toArray, List.getElem_cons_succ, List.getElem_cons_zero]); go_big_quiet_want; refine quiet_eload _ _ rfl rk_pr rfl (fun W hW => rangeAt_on Epr_1 (below_regrown' hW)) rfl ?_; go_simp; go_big_quiet_on) | ((try simp only [List.getElem_toArray, List.getElem_cons_succ, List.getElem_cons_zero]); go_big_quiet_want; refine quiet_eload _ _ rfl rk_pr rfl (fun W hW => rangeAt_on Epr_2 (below_regrown' hW)) rfl ?_; go_simp; go_big_quiet_on) | ((try simp only [List.getElem_toArray, List.getElem_cons_succ, List.getElem_cons_zero]); go_big_quiet_want; refine quiet_eload _ _ rfl rk_in rfl (fun W hW => rangeAt_on Ein_1 (below_regrown' hW)) rfl ?_; go_simp; go_big_quiet_on) | go_big_quiet_step (fail) | quiet_step (fail))
      refine wpQuiet_nil ?_
      clear k_a7
      refine grow_call rfl rfl ?_
      go_wp2_with (go_at_call 21; refine (CU.out _).mono ?_; rintro _ _ ⟨A3, n3, d3, rfl, own3, B⟩; have K3 := own3.rd; replace BB := bon BB B; replace a7 := cell_below B a7; replace Epr_1 := rangeAt_on Epr_1 B; replace Epr_2 := rangeAt_on Epr_2 B; replace Ein_1 := rangeAt_on Ein_1 B)
      refine ⟨Grows.of B, ?_⟩
      clear B
      have k_a7 := cell_regrown a7
      clear k_a7
      refine grow_call rfl rfl ?_
      go_wp2_with (go_at_call 22; refine (CR.out _).mono ?_; rintro _ _ ⟨A4, n4, d4, rfl, own4, B⟩; replace K3 := K3.on B; have K4 := own4.rd; replace BB := bon BB B; replace a7 := cell_below B a7; replace Epr_1 := rangeAt_on Epr_1 B; replace Epr_2 := rangeAt_on Epr_2 B; replace Ein_1 := rangeAt_on Ein_1 B)
      refine ⟨Grows.of B, ?_⟩
      clear B
      have k_a7 := cell_regrown a7
      clear k_a7
      refine grow_call rfl rfl ?_
      go_wp2_with (go_at_call 20; refine (sameInts_b _ _ _ _ _ _ _ _ _ _ K3 K4 (Nat.le_refl _) (Nat.le_refl _) (by have h9 := K3.len; omega)).mono ?_; rintro _ _ ⟨rfl, B⟩; replace BB := bon BB B; replace a7 := cell_below B a7; replace Epr_1 := rangeAt_on Epr_1 B; replace Epr_2 := rangeAt_on Epr_2 B; replace Ein_1 := rangeAt_on Ein_1 B)
      refine ⟨Grows.of B, ?_⟩
      clear B
      have k_a7 := cell_regrown a7
      refine grow_read rfl rfl ?_
      (first | ((try simp only [List.getElem_toArray, List.getElem_cons_succ, List.getElem_cons_zero]); go_big_quiet_want; refine quiet_eload _ _ rfl rk_pr rfl (fun W hW => rangeAt_on Epr_1 (below_regrown' hW)) rfl ?_; go_simp; go_big_quiet_on) | ((try simp only [List.getElem_toArray, List.getElem_cons_succ, List.getElem_cons_zero]); go_big_quiet_want; refine quiet_eload _ _ rfl rk_pr rfl (fun W hW => rangeAt_on Epr_2 (below_regrown' hW)) rfl ?_; go_simp; go_big_quiet_on) | ((try simp only [List.getElem_toArray, List.getElem_cons_succ, List.getElem_cons_zero]); go_big_quiet_want; refine quiet_eload _ _ rfl rk_in rfl (fun W hW => rangeAt_on Ein_1 (below_regrown' hW)) rfl ?_; go_simp; go_big_quiet_on) | go_big_quiet_step (fail) | quiet_step (fail))
      refine wpQuiet_nil ?_
      clear k_a7
      refine grow_nil ?_
      go_wp2
      go_roundw
      case rel => exact ⟨k + 1, by omega, by go_num, a7, Epr_1, Epr_2, BB⟩
      case measure => simp [intOf]; omega
    · obtain rfl : k = n := by omega
      have C1 := Lib.hid (fun W (h : Below w.heap.size w W) => format_b p A k c W (HL.out.on h) ((K1.out.below h).more h.size) HW.out (by omega))
      have C2 := Lib.hid (fun W (h : Below w.heap.size w W) => rformat_b p A k c W ((K1.out.below h).more h.size) HW.out (by omega))
      have C3 := Lib.hid (fun W (h : Below w.heap.size w W) => equal_b p q A A2 k n2 c cc W ((K1.out.below h).more h.size) ((K2.out.below h).more h.size) hn hn2)
      have C4 := Lib.hid (fun W (h : Below w.heap.size w W) => requal_b p q A A2 k n2 c cc W ((K1.out.below h).more h.size) ((K2.out.below h).more h.size) hn hn2)
      have C5 := Lib.hid (fun W (h : Below w.heap.size w W) => equal_b p p A A k k c c W ((K1.out.below h).more h.size) ((K1.out.below h).more h.size) hn hn)
      have C6 := Lib.hid (fun W (h : Below w.heap.size w W) => example_b W (HL.out.on h))
      rw [eqP_self p] at C5
      obtain ⟨z, hz⟩ : ∃ z, fmtS p.cd = z := ⟨_, rfl⟩
      obtain ⟨y, hy⟩ : ∃ y, eqP p q = y := ⟨_, rfl⟩
      rw [hz] at C1 C2
      rw [hy] at C3 C4
      clear hz hy K1 K2 HW HL
      have t2 : (y == y) = true := by cases y <;> rfl
      go_wp2_with fail
      have k_a7 := cell_regrown a7
      refine wp_region_quiet_below (by kernel_rfl) (by kernel_rfl) ?_
      repeat (first | (go_big_quiet_want; refine quiet_eload _ _ rfl rk_pr rfl (fun W hW => rangeAt_on Epr_1 (below_regrown' hW)) rfl ?_; go_simp; go_big_quiet_on) | (go_big_quiet_want; refine quiet_eload _ _ rfl rk_pr rfl (fun W hW => rangeAt_on Epr_2 (below_regrown' hW)) rfl ?_; go_simp; go_big_quiet_on) | go_big_quiet_step ((first | (go_at_call 23; with_reducible exact Calls.regrown_of (C1.out _ (bon BB (below_regrown _ _ _)))) | (go_at_call 24; with_reducible exact Calls.regrown_of (C2.out _ (bon BB (below_regrown _ _ _)))) | (go_at_call 25; with_reducible exact Calls.regrown_of (C3.out _ (bon BB (below_regrown _ _ _)))) | (go_at_call 25; with_reducible exact Calls.regrown_of (C5.out _ (bon BB (below_regrown _ _ _)))) | (go_at_call 26; with_reducible exact Calls.regrown_of (C4.out _ (bon BB (below_regrown _ _ _)))) | (go_at_call 17; with_reducible exact Calls.regrown_of (C6.out _ (bon BB (below_regrown _ _ _)))))) | quiet_step ((first | (go_at_call 23; with_reducible exact Calls.regrown_of (C1.out _ (bon BB (below_regrown _ _ _)))) | (go_at_call 24; with_reducible exact Calls.regrown_of (C2.out _ (bon BB (below_regrown _ _ _)))) | (go_at_call 25; with_reducible exact Calls.regrown_of (C3.out _ (bon BB (below_regrown _ _ _)))) | (go_at_call 25; with_reducible exact Calls.regrown_of (C5.out _ (bon BB (below_regrown _ _ _)))) | (go_at_call 26; with_reducible exact Calls.regrown_of (C4.out _ (bon BB (below_regrown _ _ _)))) | (go_at_call 17; with_reducible exact Calls.regrown_of (C6.out _ (bon BB (below_regrown _ _ _)))))))
      refine wpQuiet_nil ?_
      intro W hw'
      have B := below_regrown' hw'
      clear hw' k_a7
      replace BB := bon BB B
      replace a7 := cell_below B a7
      replace Epr_1 := rangeAt_on Epr_1 B
      replace Epr_2 := rangeAt_on Epr_2 B
      go_wp2
      go_ret
      exact ⟨rfl, BB⟩

end Go.Proofs.YtnhnbblplnhmlaaDoor
