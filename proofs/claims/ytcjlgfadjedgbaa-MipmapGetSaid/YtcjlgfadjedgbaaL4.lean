/- The walk of MipmapGet. -/
import Derived.Test.YtcjlgfadjedgbaaL3
namespace Go.Proofs.Ytcjlgfadjedgbaa
open Go.RowKit Go.Sort

set_option maxRecDepth 100000 in
set_option maxHeartbeats 2000000 in
theorem get_walk (A A2 : Option Addr) (n c n2 c2 : Nat) (ts us : List Tx) (x y k : Int) (w : World) (R : RdI w w.heap.size A n ts) (R2 : RdI w w.heap.size A2 n2 us) (hn : n ≤ 9223372036854775807) (hn2 : n2 ≤ 9223372036854775807) :
    Calls Try.prog 7 #[.agg #[.slice A n c], .agg #[.slice A2 n2 c2], .agg #[.int .i64 x, .int .i64 y, .int .i64 k]] w fun e w' => e = .returned (.bool true) ∧ Below w.heap.size w w' := by
  obtain ⟨c0, B0⟩ := box1 w (.slice A n c) 29
  obtain ⟨d0, B1⟩ := box1 (w.alloc (.cells #[.slice A n c] 29)) (.slice A2 n2 c2) 29
  obtain ⟨p0, p1, p2, B2⟩ := box3 ((w.alloc (.cells #[.slice A n c] 29)).alloc (.cells #[.slice A2 n2 c2] 29)) (.int .i64 x) (.int .i64 y) (.int .i64 k) 48
  have z1 : (w.alloc (.cells #[.slice A n c] 29)).heap.size = w.heap.size + 1 := by simp
  have z2 : ((w.alloc (.cells #[.slice A n c] 29)).alloc (.cells #[.slice A2 n2 c2] 29)).heap.size = w.heap.size + 2 := by simp
  replace c0 := cell_below B2 (cell_below B1 c0)
  replace d0 := cell_below B2 d0
  rw [z1] at d0
  rw [z2] at p0 p1 p2
  have BB := bon (bon B0 B1) B2
  have J1 := R.on BB
  have J2 := R2.on BB
  clear R R2 B0 B1 B2 z1 z2
  have CS1 := Lib.hid (fun W R => small_b A n c ts W R hn)
  have CS2 := Lib.hid (fun W R => small_b A2 n2 c2 us W R hn2)
  have CE := Lib.hid (fun W R R2 h => tequal_b A A2 n c n2 c2 ts us W R R2 h)
  have CR := Lib.hid (fun W R R2 h => rtequal_b A A2 n c n2 c2 ts us W R R2 h)
  have CT := Lib.hid (fun W R R2 h => tequal_b A A n c n c ts ts W R R2 h)
  have CG := Lib.hid (fun W R => tget_b A n c ts x y k W R)
  have CQ := Lib.hid (fun W R => rtget_b A n c ts x y k W R)
  have CH := Lib.hid (fun W R h => thash_b A n c ts W R h)
  have CI := Lib.hid (fun W R h => rthash_b A n c ts W R h)
  rw [teq_refl] at CT
  unfold GivesV at CG CQ
  obtain ⟨z, hz⟩ : ∃ z, teq ts us = z := ⟨_, rfl⟩
  obtain ⟨v, hv⟩ : ∃ v, tgt ts x y k = v := ⟨_, rfl⟩
  obtain ⟨h, hh⟩ : ∃ h, thash ts n = h := ⟨_, rfl⟩
  rw [hz] at CE CR
  rw [hv] at CG CQ
  rw [hh] at CH CI
  clear hz hv hh
  unfold GivesSmall at CS1 CS2
  go_enter Try.func7, Try.ntmps7
  go_wp2_with (first
    | (go_at_call 24; (with_reducible refine (CS1.out _ J1).mono ?_); rintro _ W1 ⟨s1, rfl, hs1, B⟩; (replace BB := bon BB B; replace c0 := cell_below B c0; replace d0 := cell_below B d0; replace p0 := cell_below B p0; replace p1 := cell_below B p1; replace p2 := cell_below B p2; replace J1 := RdI.on J1 B; replace J2 := RdI.on J2 B); clear B; have HS1 := Lib.hid hs1; clear hs1; rcases s1 with _ | _)
    | (go_at_call 24; (with_reducible refine (CS2.out _ J2).mono ?_); rintro _ W2 ⟨s2, rfl, hs2, B⟩; (replace BB := bon BB B; replace c0 := cell_below B c0; replace d0 := cell_below B d0; replace p0 := cell_below B p0; replace p1 := cell_below B p1; replace p2 := cell_below B p2; replace J1 := RdI.on J1 B; replace J2 := RdI.on J2 B); clear B; have HS2 := Lib.hid hs2; clear hs2; rcases s2 with _ | _)
    | (go_at_call 9; (with_reducible refine (lexample_b _).mono ?_); rintro _ W9 ⟨rfl, B⟩; (replace BB := bon BB B; replace c0 := cell_below B c0; replace d0 := cell_below B d0; replace p0 := cell_below B p0; replace p1 := cell_below B p1; replace p2 := cell_below B p2; replace J1 := RdI.on J1 B; replace J2 := RdI.on J2 B); clear B))
  all_goals try (go_ret; exact ⟨rfl, BB⟩)
  have h1 : n ≤ 1000 := Nat.le_trans (HS1.out (by first | rfl | trivial)) (by omega)
  have h2 : n2 ≤ 1000 := Nat.le_trans (HS2.out (by first | rfl | trivial)) (by omega)
  clear CS1 CS2 HS1 HS2
  have k_c0 := cell_regrown c0
  have k_d0 := cell_regrown d0
  have k_p0 := cell_regrown p0
  have k_p1 := cell_regrown p1
  have k_p2 := cell_regrown p2
  refine wp_region_tail (n := 12) (by kernel_rfl) (by kernel_rfl) ?_
  simp only [List.take_succ_cons, List.take_zero, List.drop_succ_cons, List.drop_zero]
  repeat (first | go_big_quiet_step ((first | (go_at_call 27; with_reducible exact Calls.regrown_of (CE.out _ (J1.on (below_regrown _ _ _)) (J2.on (below_regrown _ _ _)) h1)) | (go_at_call 12; with_reducible exact Calls.regrown_of (CR.out _ (J1.on (below_regrown _ _ _)) (J2.on (below_regrown _ _ _)) h1)) | (go_at_call 27; with_reducible exact Calls.regrown_of (CT.out _ (J1.on (below_regrown _ _ _)) (J1.on (below_regrown _ _ _)) h1)))) | quiet_step ((first | (go_at_call 27; with_reducible exact Calls.regrown_of (CE.out _ (J1.on (below_regrown _ _ _)) (J2.on (below_regrown _ _ _)) h1)) | (go_at_call 12; with_reducible exact Calls.regrown_of (CR.out _ (J1.on (below_regrown _ _ _)) (J2.on (below_regrown _ _ _)) h1)) | (go_at_call 27; with_reducible exact Calls.regrown_of (CT.out _ (J1.on (below_regrown _ _ _)) (J1.on (below_regrown _ _ _)) h1)))))
  refine wpQuiet_nil ?_
  intro W hw'
  have B := below_regrown' hw'
  clear hw' k_c0 k_d0 k_p0 k_p1 k_p2
  replace BB := bon BB B
  replace c0 := cell_below B c0
  replace d0 := cell_below B d0
  replace p0 := cell_below B p0
  replace p1 := cell_below B p1
  replace p2 := cell_below B p2
  replace J1 := RdI.on J1 B
  replace J2 := RdI.on J2 B
  clear B
  go_wp2
  have k_c0 := cell_regrown c0
  have k_d0 := cell_regrown d0
  have k_p0 := cell_regrown p0
  have k_p1 := cell_regrown p1
  have k_p2 := cell_regrown p2
  refine wp_region_tail (n := 30) (by kernel_rfl) (by kernel_rfl) ?_
  simp only [List.take_succ_cons, List.take_zero, List.drop_succ_cons, List.drop_zero]
  repeat (first | go_big_quiet_step ((first | (go_at_call 28; exact Calls.regrown_of (CG.out _ (J1.on (below_regrown _ _ _)))) | (go_at_call 29; exact Calls.regrown_of (CQ.out _ (J1.on (below_regrown _ _ _)))) | (go_at_call 30; exact Calls.regrown_of (CH.out _ (J1.on (below_regrown _ _ _)) h1)) | (go_at_call 31; exact Calls.regrown_of (CI.out _ (J1.on (below_regrown _ _ _)) h1)) | (go_at_call 9; exact Calls.regrown_of (lexample_b _)))) | quiet_step ((first | (go_at_call 28; exact Calls.regrown_of (CG.out _ (J1.on (below_regrown _ _ _)))) | (go_at_call 29; exact Calls.regrown_of (CQ.out _ (J1.on (below_regrown _ _ _)))) | (go_at_call 30; exact Calls.regrown_of (CH.out _ (J1.on (below_regrown _ _ _)) h1)) | (go_at_call 31; exact Calls.regrown_of (CI.out _ (J1.on (below_regrown _ _ _)) h1)) | (go_at_call 9; exact Calls.regrown_of (lexample_b _)))))
  refine wpQuiet_nil ?_
  intro W hw'
  have B := below_regrown' hw'
  clear hw' k_c0 k_d0 k_p0 k_p1 k_p2
  replace BB := bon BB B
  replace c0 := cell_below B c0
  replace d0 := cell_below B d0
  replace p0 := cell_below B p0
  replace p1 := cell_below B p1
  replace p2 := cell_below B p2
  replace J1 := RdI.on J1 B
  replace J2 := RdI.on J2 B
  go_wp2
  go_ret
  exact ⟨rfl, BB⟩

end Go.Proofs.Ytcjlgfadjedgbaa
