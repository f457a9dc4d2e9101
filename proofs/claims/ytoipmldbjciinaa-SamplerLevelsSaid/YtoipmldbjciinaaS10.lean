/- The walk of SamplerLevels. Written by tools/gen/genS10.py. -/
import Derived.Test.YtoipmldbjciinaaS9
import Derived.Test.YtoipmldbjciinaaS7
import Derived.Test.YtoipmldbjciinaaPair
import Derived.Test.YtoipmldbjciinaaOpenS
namespace Go.Proofs.Ytoipmldbjciinaa
open Go.RowKit Go.Sort
set_option linter.unusedVariables false

theorem vec2T : RowT Try.prog 31 2 := ⟨⟨_, Try.underlying31, rfl⟩, by kernel_rfl⟩

theorem args_s24 (w : World) (s : Nat → Int) (x y a b c d : Int) (t u v : TypeId) :
    Below w.heap.size w (((w.alloc (.cells (smps s) t)).alloc (.cells #[.int .i64 x, .int .i64 y] u)).alloc (.cells #[.int .i64 a, .int .i64 b, .int .i64 c, .int .i64 d] v)) ∧
      (∀ i, i < 12 → (((w.alloc (.cells (smps s) t)).alloc (.cells #[.int .i64 x, .int .i64 y] u)).alloc (.cells #[.int .i64 a, .int .i64 b, .int .i64 c, .int .i64 d] v)).cell? ⟨w.heap.size, i, none⟩ = some (.int .i64 (s i))) ∧
      P2At (((w.alloc (.cells (smps s) t)).alloc (.cells #[.int .i64 x, .int .i64 y] u)).alloc (.cells #[.int .i64 a, .int .i64 b, .int .i64 c, .int .i64 d] v)) (w.heap.size + 1) x y ∧
      VecAt (((w.alloc (.cells (smps s) t)).alloc (.cells #[.int .i64 x, .int .i64 y] u)).alloc (.cells #[.int .i64 a, .int .i64 b, .int .i64 c, .int .i64 d] v)) (w.heap.size + 2) a b c d := by
  have b0 := box_below w (smps s) t
  have S0 := smp_box w s t
  have b1 := box_below (w.alloc (.cells (smps s) t)) #[.int .i64 x, .int .i64 y] u
  have P0 := (P2Box.made (w.alloc (.cells (smps s) t)) x y u).1
  have b2 := box_below ((w.alloc (.cells (smps s) t)).alloc (.cells #[.int .i64 x, .int .i64 y] u)) #[.int .i64 a, .int .i64 b, .int .i64 c, .int .i64 d] v
  have V0 := (VBox.made ((w.alloc (.cells (smps s) t)).alloc (.cells #[.int .i64 x, .int .i64 y] u)) a b c d v).1
  have z1 : (w.alloc (.cells (smps s) t)).heap.size = w.heap.size + 1 := by simp
  have z2 : ((w.alloc (.cells (smps s) t)).alloc (.cells #[.int .i64 x, .int .i64 y] u)).heap.size = w.heap.size + 2 := by simp
  rw [z1] at P0
  rw [z2] at V0
  exact ⟨bon b0 (bon b1 b2), smp_below b2 (smp_below b1 S0), P0.on b2, V0⟩

set_option maxRecDepth 100000 in
set_option maxHeartbeats 4000000 in
theorem levels_walk (s : Nat → Int) (x y a b c d : Int) (w : World) :
    Calls Try.prog 3 #[.agg (smps s), .agg #[.int .i64 x, .int .i64 y], .agg #[.int .i64 a, .int .i64 b, .int .i64 c, .int .i64 d]] w fun e w' => e = .returned (.bool true) ∧ Below w.heap.size w w' := by
  obtain ⟨BB, S0, P0, VA⟩ := args_s24 w s x y a b c d 27 28 29
  have c1 := fun W => slod_b s a W
  have c2 := fun W => rslod_b s a W
  have c3 := fun W => slog2_b b W
  have c4 := fun W => rlog2_b b W
  have c5 := fun W => sfoot_b x y a b c d W
  have c6 := fun W => rfoot_b x y a b c d W
  have CE := Lib.hid (fun W => sexample_b W)
  obtain ⟨m, hm⟩ : ∃ m, lodv s a = m := ⟨_, rfl⟩
  obtain ⟨n, hn⟩ : ∃ m, log2v b = m := ⟨_, rfl⟩
  obtain ⟨r, hr⟩ : ∃ m, ftv x y a b c d = m := ⟨_, rfl⟩
  rw [hm] at c1 c2
  rw [hn] at c3 c4
  rw [hr] at c5 c6
  have C1 := Lib.hid c1
  have C2 := Lib.hid c2
  have C3 := Lib.hid c3
  have C4 := Lib.hid c4
  have C5 := Lib.hid c5
  have C6 := Lib.hid c6
  clear c1 c2 c3 c4 c5 c6 hm hn hr
  go_enter Try.func3, Try.ntmps3
  go_wp2
  refine wp_region_treeC (fun W => VecAt W (w.heap.size + 2) a b c d) (.read 0 (.read 1 (.read 2 (.read 3 (.read 4 (.read 5 (.read 6 (.read 7 (.read 8 (.read 9 (.fork2 10 (.fork1 11 (.fork1 12 (.fork1 13 .nil))) 11 (.fork1 10 (.fork1 12 (.fork1 13 .nil)))))))))))))) (by kernel_rfl) (by kernel_rfl) (fun W hB => VA.on hB) ?_
  intro U0 B0
  replace BB := bon BB B0
  replace S0 := smp_below B0 S0
  replace P0 := P0.on B0
  replace VA := VA.on B0
  clear B0
  refine tree_read rfl ?_
  refine wpQuiet_step (fun K hK => ?_)
  rw [if_pos (by rfl)]
  refine quiet_pval (.pointer (some ⟨w.heap.size + 2, 0, none⟩)) (fun W hW => by simp [execOp, go_sem]) ?_
  go_simp
  refine hK _ ?_
  clear hK K
  refine wpQuiet_nil ?_
  refine tree_read rfl ?_
  refine wpQuiet_step (fun K hK => ?_)
  rw [if_pos (by rfl)]
  refine quiet_pval (.int .i64 a) (fun W hW => by have h0 := hW.1; simp [execOp, go_sem, h0]) ?_
  go_simp
  refine hK _ ?_
  clear hK K
  refine wpQuiet_nil ?_
  refine tree_read rfl ?_
  refine wpQuiet_step (fun K hK => ?_)
  rw [if_pos (by rfl)]
  refine quiet_pval (.pointer (some ⟨w.heap.size + 2, 1, none⟩)) (fun W hW => by simp [execOp, go_sem]) ?_
  go_simp
  refine hK _ ?_
  clear hK K
  refine wpQuiet_nil ?_
  refine tree_read rfl ?_
  refine wpQuiet_step (fun K hK => ?_)
  rw [if_pos (by rfl)]
  refine quiet_pval (.int .i64 b) (fun W hW => by have h0 := hW.2.1; simp [execOp, go_sem, h0]) ?_
  go_simp
  refine hK _ ?_
  clear hK K
  refine wpQuiet_nil ?_
  refine tree_read rfl ?_
  refine wpQuiet_step (fun K hK => ?_)
  rw [if_pos (by rfl)]
  refine quiet_pval (.agg #[.int .i64 a, .int .i64 b]) (fun W hW => by simp [execOp, go_sem]) ?_
  go_simp
  refine hK _ ?_
  clear hK K
  refine wpQuiet_nil ?_
  refine tree_read rfl ?_
  refine wpQuiet_step (fun K hK => ?_)
  rw [if_pos (by rfl)]
  refine quiet_pval (.pointer (some ⟨w.heap.size + 2, 2, none⟩)) (fun W hW => by simp [execOp, go_sem]) ?_
  go_simp
  refine hK _ ?_
  clear hK K
  refine wpQuiet_nil ?_
  refine tree_read rfl ?_
  refine wpQuiet_step (fun K hK => ?_)
  rw [if_pos (by rfl)]
  refine quiet_pval (.int .i64 c) (fun W hW => by have h0 := hW.2.2.1; simp [execOp, go_sem, h0]) ?_
  go_simp
  refine hK _ ?_
  clear hK K
  refine wpQuiet_nil ?_
  refine tree_read rfl ?_
  refine wpQuiet_step (fun K hK => ?_)
  rw [if_pos (by rfl)]
  refine quiet_pval (.pointer (some ⟨w.heap.size + 2, 3, none⟩)) (fun W hW => by simp [execOp, go_sem]) ?_
  go_simp
  refine hK _ ?_
  clear hK K
  refine wpQuiet_nil ?_
  refine tree_read rfl ?_
  refine wpQuiet_step (fun K hK => ?_)
  rw [if_pos (by rfl)]
  refine quiet_pval (.int .i64 d) (fun W hW => by have h0 := hW.2.2.2; simp [execOp, go_sem, h0]) ?_
  go_simp
  refine hK _ ?_
  clear hK K
  refine wpQuiet_nil ?_
  refine tree_read rfl ?_
  refine wpQuiet_step (fun K hK => ?_)
  rw [if_pos (by rfl)]
  refine quiet_pval (.agg #[.int .i64 c, .int .i64 d]) (fun W hW => by simp [execOp, go_sem]) ?_
  go_simp
  refine hK _ ?_
  clear hK K
  refine wpQuiet_nil ?_
  refine tree_two rfl rfl ?_ ?_
  · go_wp2_with fail
    have B := box_below U0 #[.int .i64 0, .int .i64 0] 31
    refine ⟨VA.on B, ?_⟩
    refine tree_letter (S := fun U => Below w.heap.size w U ∧ (∀ i, i < 12 → U.cell? ⟨w.heap.size, i, none⟩ = some (.int .i64 (s i))) ∧ P2At U (w.heap.size + 1) x y ∧ VecAt U (w.heap.size + 2) a b c d ∧ P2Box U U0.heap.size 0 0 ∧ w.heap.size + 2 < U0.heap.size) ?_ ⟨bon BB B, smp_below B S0, P0.on B, VA.on B, P2Box.made U0 0 0 31, block_lt_of_cell VA.1⟩
    clear B BB S0 P0 VA
    generalize U0.heap.size = b1
    rintro U1 ⟨BB, S0, P0, VA, Xb1, lb1⟩
    refine tree_one rfl ?_
    go_wp2_with fail
    have B := box_below U1 #[.int .i64 0, .int .i64 0] 31
    refine ⟨VA.on B, ?_⟩
    refine tree_letter (S := fun U => Below w.heap.size w U ∧ (∀ i, i < 12 → U.cell? ⟨w.heap.size, i, none⟩ = some (.int .i64 (s i))) ∧ P2At U (w.heap.size + 1) x y ∧ VecAt U (w.heap.size + 2) a b c d ∧ P2Box U b1 0 0 ∧ P2Box U U1.heap.size 0 0 ∧ w.heap.size + 2 < U1.heap.size ∧ b1 < U1.heap.size) ?_ ⟨bon BB B, smp_below B S0, P0.on B, VA.on B, Xb1.on B, P2Box.made U1 0 0 31, block_lt_of_cell VA.1, Xb1.lt⟩
    clear B BB S0 P0 VA Xb1
    generalize U1.heap.size = b2
    rintro U2 ⟨BB, S0, P0, VA, Xb1, Xb2, lb2, ob2b1⟩
    refine tree_one rfl ?_
    go_wp2_with (refine wpList_p2set rfl _ _ _ rfl a b rfl rfl Xb1 (by kernel_rfl) ?_; intro U3 Y B hc hf)
    replace Xb2 := Xb2.keep (by omega) hc hf
    clear Xb1
    have Xb1 := Y
    clear Y
    replace BB := BB.trans (B.mono (by omega))
    replace S0 := smp_under B (by omega) S0
    replace P0 := P0.below (by omega) B
    replace VA := VA.below (by omega) B
    clear B hc hf
    refine ⟨VA, ?_⟩
    refine tree_one rfl ?_
    go_wp2_with (refine wpList_p2set rfl _ _ _ rfl c d rfl rfl Xb2 (by kernel_rfl) ?_; intro U4 Y B hc hf)
    replace Xb1 := Xb1.keep (by omega) hc hf
    clear Xb2
    have Xb2 := Y
    clear Y
    replace BB := BB.trans (B.mono (by omega))
    replace S0 := smp_under B (by omega) S0
    replace P0 := P0.below (by omega) B
    replace VA := VA.below (by omega) B
    clear B hc hf
    refine ⟨VA, ?_⟩
    refine tree_nil ?_
    have W1 := Xb1.1
    have W2 := Xb2.1
    clear Xb1 Xb2
    obtain ⟨e0, e1⟩ := P0
    obtain ⟨f0, f1, _, _⟩ := VA
    go_wp2
    go_simp
    have k_S0 := smp_regrown S0
    have k_e0 := cell_regrown e0
    have k_e1 := cell_regrown e1
    have k_f0 := cell_regrown f0
    have k_f1 := cell_regrown f1
    refine wp_region_quiet_below (by kernel_rfl) (by kernel_rfl) ?_
    repeat (first | (go_big_quiet_want; refine quiet_p2load _ _ rfl vec2T (fun W hW => P2At.on W1 (below_regrown' hW)) rfl ?_; go_simp; go_big_quiet_on) | (go_big_quiet_want; refine quiet_p2load _ _ rfl vec2T (fun W hW => P2At.on W2 (below_regrown' hW)) rfl ?_; go_simp; go_big_quiet_on) | (go_big_quiet_want; refine quiet_sload _ _ rfl smpT (fun W hW => smp_class S0 hW) rfl ?_; go_simp; go_big_quiet_on) | (go_big_quiet_want; refine quiet_bload _ _ rfl bordT (fun W hW => smp_class S0 hW) rfl ?_; go_simp; go_big_quiet_on) | go_big_quiet_step ((first | (go_at_call 8; with_reducible exact Calls.regrown_of (C1.out _)) | (go_at_call 9; with_reducible exact Calls.regrown_of (C2.out _)) | (go_at_call 10; with_reducible exact Calls.regrown_of (C3.out _)) | (go_at_call 11; with_reducible exact Calls.regrown_of (C4.out _)))) | quiet_step ((first | (go_at_call 8; with_reducible exact Calls.regrown_of (C1.out _)) | (go_at_call 9; with_reducible exact Calls.regrown_of (C2.out _)) | (go_at_call 10; with_reducible exact Calls.regrown_of (C3.out _)) | (go_at_call 11; with_reducible exact Calls.regrown_of (C4.out _)))))
    refine wpQuiet_nil ?_
    intro W hw'
    have B := below_regrown' hw'
    clear hw' k_S0 k_e0 k_e1 k_f0 k_f1
    replace BB := bon BB B
    replace S0 := smp_below B S0
    replace e0 := cell_below B e0
    replace e1 := cell_below B e1
    replace f0 := cell_below B f0
    replace f1 := cell_below B f1
    replace W1 := P2At.on W1 B
    replace W2 := P2At.on W2 B
    go_wp2
    have k_S0 := smp_regrown S0
    have k_e0 := cell_regrown e0
    have k_e1 := cell_regrown e1
    have k_f0 := cell_regrown f0
    have k_f1 := cell_regrown f1
    refine wp_region_quiet_below (by kernel_rfl) (by kernel_rfl) ?_
    repeat (first | (go_big_quiet_want; refine quiet_p2load _ _ rfl vec2T (fun W hW => P2At.on W1 (below_regrown' hW)) rfl ?_; go_simp; go_big_quiet_on) | (go_big_quiet_want; refine quiet_p2load _ _ rfl vec2T (fun W hW => P2At.on W2 (below_regrown' hW)) rfl ?_; go_simp; go_big_quiet_on) | (go_big_quiet_want; refine quiet_sload _ _ rfl smpT (fun W hW => smp_class S0 hW) rfl ?_; go_simp; go_big_quiet_on) | (go_big_quiet_want; refine quiet_bload _ _ rfl bordT (fun W hW => smp_class S0 hW) rfl ?_; go_simp; go_big_quiet_on) | go_big_quiet_step ((first | (go_at_call 12; with_reducible exact Calls.regrown_of (C5.out _)) | (go_at_call 13; with_reducible exact Calls.regrown_of (C6.out _)) | (go_at_call 14; with_reducible exact Calls.regrown_of (CE.out _)))) | quiet_step ((first | (go_at_call 12; with_reducible exact Calls.regrown_of (C5.out _)) | (go_at_call 13; with_reducible exact Calls.regrown_of (C6.out _)) | (go_at_call 14; with_reducible exact Calls.regrown_of (CE.out _)))))
    refine wpQuiet_nil ?_
    intro W hw'
    have B := below_regrown' hw'
    clear hw' k_S0 k_e0 k_e1 k_f0 k_f1
    replace BB := bon BB B
    replace S0 := smp_below B S0
    replace e0 := cell_below B e0
    replace e1 := cell_below B e1
    replace f0 := cell_below B f0
    replace f1 := cell_below B f1
    replace W1 := P2At.on W1 B
    replace W2 := P2At.on W2 B
    go_wp2
    go_ret
    exact ⟨rfl, BB⟩
  · go_wp2_with fail
    have B := box_below U0 #[.int .i64 0, .int .i64 0] 31
    refine ⟨VA.on B, ?_⟩
    refine tree_letter (S := fun U => Below w.heap.size w U ∧ (∀ i, i < 12 → U.cell? ⟨w.heap.size, i, none⟩ = some (.int .i64 (s i))) ∧ P2At U (w.heap.size + 1) x y ∧ VecAt U (w.heap.size + 2) a b c d ∧ P2Box U U0.heap.size 0 0 ∧ w.heap.size + 2 < U0.heap.size) ?_ ⟨bon BB B, smp_below B S0, P0.on B, VA.on B, P2Box.made U0 0 0 31, block_lt_of_cell VA.1⟩
    clear B BB S0 P0 VA
    generalize U0.heap.size = b2
    rintro U1 ⟨BB, S0, P0, VA, Xb2, lb2⟩
    refine tree_one rfl ?_
    go_wp2_with fail
    have B := box_below U1 #[.int .i64 0, .int .i64 0] 31
    refine ⟨VA.on B, ?_⟩
    refine tree_letter (S := fun U => Below w.heap.size w U ∧ (∀ i, i < 12 → U.cell? ⟨w.heap.size, i, none⟩ = some (.int .i64 (s i))) ∧ P2At U (w.heap.size + 1) x y ∧ VecAt U (w.heap.size + 2) a b c d ∧ P2Box U b2 0 0 ∧ P2Box U U1.heap.size 0 0 ∧ w.heap.size + 2 < U1.heap.size ∧ b2 < U1.heap.size) ?_ ⟨bon BB B, smp_below B S0, P0.on B, VA.on B, Xb2.on B, P2Box.made U1 0 0 31, block_lt_of_cell VA.1, Xb2.lt⟩
    clear B BB S0 P0 VA Xb2
    generalize U1.heap.size = b1
    rintro U2 ⟨BB, S0, P0, VA, Xb2, Xb1, lb1, ob1b2⟩
    refine tree_one rfl ?_
    go_wp2_with (refine wpList_p2set rfl _ _ _ rfl a b rfl rfl Xb1 (by kernel_rfl) ?_; intro U3 Y B hc hf)
    replace Xb2 := Xb2.keep (by omega) hc hf
    clear Xb1
    have Xb1 := Y
    clear Y
    replace BB := BB.trans (B.mono (by omega))
    replace S0 := smp_under B (by omega) S0
    replace P0 := P0.below (by omega) B
    replace VA := VA.below (by omega) B
    clear B hc hf
    refine ⟨VA, ?_⟩
    refine tree_one rfl ?_
    go_wp2_with (refine wpList_p2set rfl _ _ _ rfl c d rfl rfl Xb2 (by kernel_rfl) ?_; intro U4 Y B hc hf)
    replace Xb1 := Xb1.keep (by omega) hc hf
    clear Xb2
    have Xb2 := Y
    clear Y
    replace BB := BB.trans (B.mono (by omega))
    replace S0 := smp_under B (by omega) S0
    replace P0 := P0.below (by omega) B
    replace VA := VA.below (by omega) B
    clear B hc hf
    refine ⟨VA, ?_⟩
    refine tree_nil ?_
    have W1 := Xb1.1
    have W2 := Xb2.1
    clear Xb1 Xb2
    obtain ⟨e0, e1⟩ := P0
    obtain ⟨f0, f1, _, _⟩ := VA
    go_wp2
    go_simp
    have k_S0 := smp_regrown S0
    have k_e0 := cell_regrown e0
    have k_e1 := cell_regrown e1
    have k_f0 := cell_regrown f0
    have k_f1 := cell_regrown f1
    refine wp_region_quiet_below (by kernel_rfl) (by kernel_rfl) ?_
    repeat (first | (go_big_quiet_want; refine quiet_p2load _ _ rfl vec2T (fun W hW => P2At.on W1 (below_regrown' hW)) rfl ?_; go_simp; go_big_quiet_on) | (go_big_quiet_want; refine quiet_p2load _ _ rfl vec2T (fun W hW => P2At.on W2 (below_regrown' hW)) rfl ?_; go_simp; go_big_quiet_on) | (go_big_quiet_want; refine quiet_sload _ _ rfl smpT (fun W hW => smp_class S0 hW) rfl ?_; go_simp; go_big_quiet_on) | (go_big_quiet_want; refine quiet_bload _ _ rfl bordT (fun W hW => smp_class S0 hW) rfl ?_; go_simp; go_big_quiet_on) | go_big_quiet_step ((first | (go_at_call 8; with_reducible exact Calls.regrown_of (C1.out _)) | (go_at_call 9; with_reducible exact Calls.regrown_of (C2.out _)) | (go_at_call 10; with_reducible exact Calls.regrown_of (C3.out _)) | (go_at_call 11; with_reducible exact Calls.regrown_of (C4.out _)))) | quiet_step ((first | (go_at_call 8; with_reducible exact Calls.regrown_of (C1.out _)) | (go_at_call 9; with_reducible exact Calls.regrown_of (C2.out _)) | (go_at_call 10; with_reducible exact Calls.regrown_of (C3.out _)) | (go_at_call 11; with_reducible exact Calls.regrown_of (C4.out _)))))
    refine wpQuiet_nil ?_
    intro W hw'
    have B := below_regrown' hw'
    clear hw' k_S0 k_e0 k_e1 k_f0 k_f1
    replace BB := bon BB B
    replace S0 := smp_below B S0
    replace e0 := cell_below B e0
    replace e1 := cell_below B e1
    replace f0 := cell_below B f0
    replace f1 := cell_below B f1
    replace W1 := P2At.on W1 B
    replace W2 := P2At.on W2 B
    go_wp2
    have k_S0 := smp_regrown S0
    have k_e0 := cell_regrown e0
    have k_e1 := cell_regrown e1
    have k_f0 := cell_regrown f0
    have k_f1 := cell_regrown f1
    refine wp_region_quiet_below (by kernel_rfl) (by kernel_rfl) ?_
    repeat (first | (go_big_quiet_want; refine quiet_p2load _ _ rfl vec2T (fun W hW => P2At.on W1 (below_regrown' hW)) rfl ?_; go_simp; go_big_quiet_on) | (go_big_quiet_want; refine quiet_p2load _ _ rfl vec2T (fun W hW => P2At.on W2 (below_regrown' hW)) rfl ?_; go_simp; go_big_quiet_on) | (go_big_quiet_want; refine quiet_sload _ _ rfl smpT (fun W hW => smp_class S0 hW) rfl ?_; go_simp; go_big_quiet_on) | (go_big_quiet_want; refine quiet_bload _ _ rfl bordT (fun W hW => smp_class S0 hW) rfl ?_; go_simp; go_big_quiet_on) | go_big_quiet_step ((first | (go_at_call 12; with_reducible exact Calls.regrown_of (C5.out _)) | (go_at_call 13; with_reducible exact Calls.regrown_of (C6.out _)) | (go_at_call 14; with_reducible exact Calls.regrown_of (CE.out _)))) | quiet_step ((first | (go_at_call 12; with_reducible exact Calls.regrown_of (C5.out _)) | (go_at_call 13; with_reducible exact Calls.regrown_of (C6.out _)) | (go_at_call 14; with_reducible exact Calls.regrown_of (CE.out _)))))
    refine wpQuiet_nil ?_
    intro W hw'
    have B := below_regrown' hw'
    clear hw' k_S0 k_e0 k_e1 k_f0 k_f1
    replace BB := bon BB B
    replace S0 := smp_below B S0
    replace e0 := cell_below B e0
    replace e1 := cell_below B e1
    replace f0 := cell_below B f0
    replace f1 := cell_below B f1
    replace W1 := P2At.on W1 B
    replace W2 := P2At.on W2 B
    go_wp2
    go_ret
    exact ⟨rfl, BB⟩

end Go.Proofs.Ytoipmldbjciinaa
