/- What bytes.Repeat of a texel's bytes and package image's Fill return. -/
import Derived.Test.YtlnbkahpklnfaaaIQ
import Derived.Test.YtlnbkahpklnfaaaIM
import Derived.Lib.MakeNoZero
import Derived.Laws.Bits64b
namespace Go.Proofs.Ytlnbkahpklnfaaa
open Go.RowKit Go.Sort

set_option maxRecDepth 100000 in
theorem mul64_q (s k p : Int) (w : World) (s0 : 0 ≤ s) (s1 : s ≤ 8) (k0 : 0 ≤ k) (k1 : k ≤ 4096) (hp : s * k = p) :
    Calls Try.prog 93 #[.int .u64 s, .int .u64 k] w fun e w' => e = .returned (.tuple #[.int .u64 0, .int .u64 p]) ∧ w = w' := by
  have hm := mul_bds s0 s1 k0 k1
  rw [hp] at hm
  have mk : ∀ a : Int, 0 ≤ a → a ≤ 32768 → bits .and .u64 a 4294967295 = a := fun a h0 h1 => by
    have h := bits_and_u64_nat a.toNat 4294967295 (by omega) (by omega)
    have e : a.toNat &&& 4294967295 = a.toNat % 4294967296 := Nat.and_two_pow_sub_one_eq_mod a.toNat 32
    rw [e, Nat.mod_eq_of_lt (by omega), Int.toNat_of_nonneg h0] at h
    exact h
  have m1 := mk s s0 (by omega)
  have m2 := mk k k0 (by omega)
  have m3 := mk 0 (by omega) (by omega)
  have d1 : s / 4294967296 = 0 := by omega
  have d2 : k / 4294967296 = 0 := by omega
  have d3 : p / 4294967296 = 0 := by omega
  have q1 : IntKind.u64.wrap p = p := by rw [IntKind.wrap_u64]; omega
  have q0 : IntKind.u64.wrap 0 = 0 := by rw [IntKind.wrap_u64]; omega
  clear mk hm
  go_enter Try.func93, Try.ntmps93
  go_wp2
  go_ret2
  exact ⟨rfl, rfl⟩

set_option maxRecDepth 100000 in
theorem mul_q (s k p : Int) (w : World) (s0 : 0 ≤ s) (s1 : s ≤ 8) (k0 : 0 ≤ k) (k1 : k ≤ 4096) (hp : s * k = p) :
    Calls Try.prog 70 #[.int .u64 s, .int .u64 k] w fun e w' => e = .returned (.tuple #[.int .u64 0, .int .u64 p]) ∧ w = w' := by
  have C := Lib.hid (fun W => mul64_q s k p W s0 s1 k0 k1 hp)
  clear hp
  go_enter Try.func70, Try.ntmps70
  go_wp2_with (go_at_call 93; (with_reducible refine (C.out _).mono ?_); rintro _ _ ⟨rfl, rfl⟩)
  go_ret2
  exact ⟨rfl, rfl⟩

set_option maxRecDepth 100000 in
set_option maxHeartbeats 1000000 in
theorem repeat_b (A : Option Addr) (n c k : Nat) (l : List Int) (w : World) (R : Rd w w.heap.size .u8 A n l) (h1 : 1 ≤ n) (h8 : n ≤ 8) (hk : 1 ≤ k) (hk2 : k ≤ 4096) :
    Calls Try.prog 51 #[.slice A n c, .int .i64 k] w (GivesNew w .u8 (rpL l k)) := by
  obtain ⟨N, hN⟩ : ∃ N : Nat, n * k = N := ⟨_, rfl⟩
  have hNI : (n : Int) * (k : Int) = (N : Int) := by rw [← hN, Int.natCast_mul]
  have hb : N ≤ 8 * 4096 := by rw [← hN]; exact Nat.mul_le_mul h8 hk2
  have hb1 : 1 * 1 ≤ N := by rw [← hN]; exact Nat.mul_le_mul h1 hk
  have CM := Lib.hid (fun W => mul_q n k N W (by omega) (by omega) (by omega) (by omega) hNI)
  obtain ⟨cs, hrunM, hle, _⟩ := Lib.run_makeNoZero (P := Try.prog) w #[3] 23 5 Try.underlying23 N (by omega)
  have hcall : (callFunc 71 #[.int .i64 (N : Int)]).run Try.prog w = .ok (.value (.slice (some ⟨w.heap.size, 0, none⟩) N cs.size)) ((w.alloc (.cells cs 5)).drewN 2) := by
    rw [run_callFunc_extern Try.func71 (by kernel_rfl) (by kernel_rfl) (by kernel_rfl) (e := Extern.BytealgMakeNoZero.makeNoZero #[3] #[23]) (by kernel_rfl), hrunM]
    rfl
  have K0 := BufI.made w cs 5 N 2 hle
  clear hrunM
  have k1 : 1 ≤ (k : Int) := by omega
  have n1 : 1 ≤ (n : Int) := by omega
  have N0 : (N : Int) ≤ 32768 := by omega
  have hcsN : (N : Int) ≤ (cs.size : Int) := by omega
  clear hNI hb hb1
  have hl := R.len
  have h0 : w.heap.size < ((w.alloc (.cells cs 5)).drewN 2).heap.size := by show w.heap.size < (w.alloc (.cells cs 5)).heap.size; simp
  have BM : Below w.heap.size w ((w.alloc (.cells cs 5)).drewN 2) := ((Below.refl _ _).alloc (Nat.le_refl _) _).trans ⟨rfl, rfl, rfl, Nat.le_refl _, fun _ _ => rfl⟩
  have RM := R.below BM
  have HRT := Lib.hid (rpL_take l k hk)
  have HN := Lib.hid hN
  have HL := Lib.hid hl
  clear hN hl R
  by_cases hbig : N ≤ 8192
  · have hbig' : (N : Int) ≤ 8192 := by omega
    have HM : Hid (∃ m, 1 ≤ m ∧ m * n = N) := Lib.hid ⟨k, hk, by rw [Nat.mul_comm]; exact HN.out⟩
    go_enter Try.func51, Try.ntmps51
    go_wp2_with (first
      | (go_at_call 70; (with_reducible refine (CM.out _).mono ?_); rintro _ _ ⟨rfl, rfl⟩)
      | (refine wpList_copyB _ rfl _ _ _ rfl eB K0 rfl rfl rfl RM rfl h1 ?_; intro W1 K1 B1))
    have h10 : min n N = 1 * n := by rw [Nat.one_mul]; refine Nat.min_eq_left ?_; rw [← HN.out]; exact Nat.le_mul_of_pos_right n hk
    have KS : BufI W1 w.heap.size N (rpL l 1) := by
      have e : ([] : List Int) ++ List.take (N - 0) l = rpL l 1 := by
        show List.take (N - 0) l = [] ++ l
        rw [List.nil_append, List.take_of_length_le]
        rw [HL.out, ← HN.out]
        exact Nat.le_trans (Nat.le_mul_of_pos_right n hk) (Nat.le_refl _)
      rw [← e]
      exact K1
    have KH := Lib.hid KS
    have BS := BM.trans B1
    have hS : w.heap.size < W1.heap.size := Nat.lt_of_lt_of_le h0 B1.size
    clear K0 K1 KS B1 RM BM h0 hcall
    go_loopw [10] (fun t wr => ∃ q p : Nat, 1 ≤ q ∧ q ≤ k ∧ q * n = p ∧ t = .int .i64 (p : Int) ∧ BufI wr w.heap.size N (rpL l q) ∧ Below w.heap.size w wr ∧ w.heap.size < wr.heap.size) (fun t _ => N - (intOf t).toNat)
    case atStart => exact ⟨1, min n N, by omega, hk, h10.symm, rfl, KH.out, BS, hS⟩
    case round =>
      clear KH BS hS h10
      obtain ⟨q, p, hq1, hqk, hqp, rfl, KB, BB, hH⟩ := hrel
      have hNk : k * n = N := by rw [Nat.mul_comm]; exact HN.out
      by_cases hlt : q < k
      · obtain ⟨m, hm1, hmC⟩ := HM.out
        obtain ⟨j, hj⟩ : ∃ j, min q m = j := ⟨_, rfl⟩
        obtain ⟨ch, hch⟩ : ∃ ch, j * n = ch := ⟨_, rfl⟩
        have hj1 : 1 ≤ j := by omega
        have hjq : j ≤ q := by omega
        have hch1 : 1 * 1 ≤ ch := by rw [← hch]; exact Nat.mul_le_mul hj1 h1
        have hchp : ch ≤ p := by rw [← hch, ← hqp]; exact Nat.mul_le_mul_right n hjq
        have hpN : q * n + n ≤ N := by rw [← hNk]; have := Nat.mul_le_mul_right n (show q + 1 ≤ k by omega); rwa [Nat.add_mul, Nat.one_mul] at this
        have hcm : ch = min p N := by
          rw [← hch, ← hqp, ← hmC, ← hj]
          rcases Nat.le_total q m with h | h
          · rw [Nat.min_eq_left h, Nat.min_eq_left (Nat.mul_le_mul_right n h)]
          · rw [Nat.min_eq_right h, Nat.min_eq_right (Nat.mul_le_mul_right n h)]
        have hmin : ∀ (ts : Array TypeId) (t : TypeId) (W : World), (Builtin.min_ ts t #[.int .i64 (p : Int), .int .i64 (N : Int)]).run Try.prog W = .ok (.int .i64 (ch : Int)) W := fun ts t W => by
          rw [run_min_int2]
          congr 2
          split <;> omega
        have hmore := rpL_more l hjq hlt
        rw [HL.out, hch, hNk, hqp] at hmore
        have hnp : p + min ch (N - p) = (q + min j (k - q)) * n := by
          rw [Nat.add_mul, ← hqp, ← hch, ← hNk, ← Nat.sub_mul]
          congr 1
          rcases Nat.le_total j (k - q) with h | h
          · rw [Nat.min_eq_left h, Nat.min_eq_left (Nat.mul_le_mul_right n h)]
          · rw [Nat.min_eq_right h, Nat.min_eq_right (Nat.mul_le_mul_right n h)]
        have RC := KB.rd (m := ch) (by rw [rpL_len, HL.out, hqp]; exact hchp) (show w.heap.size < wr.heap.size by exact hH)
        have hlp : (rpL l q).length = p := by rw [rpL_len, HL.out, hqp]
        obtain ⟨p2, hp2⟩ : ∃ p2, (q + min j (k - q)) * n = p2 := ⟨_, rfl⟩
        have hp2N : p2 ≤ N := by rw [← hp2, ← hNk]; exact Nat.mul_le_mul_right n (by omega)
        obtain ⟨d, hd⟩ : ∃ d, min ch (N - p) = d := ⟨_, rfl⟩
        rw [hd, hp2] at hnp
        have hd1 : 1 ≤ d := by omega
        have hadd : IntKind.i64.wrap ((p : Int) + (d : Int)) = (p2 : Int) := by rw [show (p : Int) + (d : Int) = (p2 : Int) by omega]; exact IntWalk.i64_in _ (by omega)
        have hMO := Lib.hid hmore
        have hP2 := Lib.hid hp2
        have hp1 : p < N := by omega
        have hpI : (p : Int) < (N : Int) := by omega
        have hchN : (ch : Int) ≤ (N : Int) := by omega
        have hNe : ¬ N = p := by omega
        have hpN' : p ≤ N := by omega
        have hchN' : ch ≤ N := by omega
        clear hcm hch hchp hpN hmore hmC hj HRT hqp hNk hp2
        go_wp2
        refine wp_region_treeC (fun _ => True) (.read 0 (.read 1 (.read 2 (.read 3 (.read 4 (.read 5 (.read 6 (.fork1 7 (.read 8 (.read 9 .nil)))))))))) (by kernel_rfl) (by kernel_rfl) (fun W hB => trivial) ?_
        intro V3 B
        replace KB := KB.on hH B
        replace RC := RC.on B
        replace hH := Nat.lt_of_lt_of_le hH B.size
        replace BB := bon BB B
        clear B
        refine tree_read rfl ?_
        refine wpQuiet_step (fun K hK => ?_)
        rw [if_pos (by rfl)]
        first | refine quiet_move _ rfl ?_ | refine quiet_assign _ rfl ?_
        go_simp
        refine hK _ ?_
        clear hK K
        refine wpQuiet_nil ?_
        refine tree_read rfl ?_
        refine wpQuiet_step (fun K hK => ?_)
        rw [if_pos (by rfl)]
        first | refine quiet_move _ rfl ?_ | refine quiet_assign _ rfl ?_
        go_simp
        refine hK _ ?_
        clear hK K
        refine wpQuiet_nil ?_
        refine tree_read rfl ?_
        refine wpQuiet_step (fun K hK => ?_)
        rw [if_pos (by rfl)]
        first | refine quiet_move _ rfl ?_ | refine quiet_assign _ rfl ?_
        go_simp
        refine hK _ ?_
        clear hK K
        refine wpQuiet_nil ?_
        refine tree_read rfl ?_
        refine wpQuiet_step (fun K hK => ?_)
        rw [if_pos (by rfl)]
        refine quiet_val (.slice (some ⟨w.heap.size, p, none⟩) (N - p) (N - p)) (fun W hW => by simp [execOp, go_sem, hNe, hpN']) ?_
        go_simp
        refine hK _ ?_
        clear hK K
        refine wpQuiet_nil ?_
        refine tree_read rfl ?_
        refine wpQuiet_step (fun K hK => ?_)
        rw [if_pos (by rfl)]
        first | refine quiet_move _ rfl ?_ | refine quiet_assign _ rfl ?_
        go_simp
        refine hK _ ?_
        clear hK K
        refine wpQuiet_nil ?_
        refine tree_read rfl ?_
        refine wpQuiet_step (fun K hK => ?_)
        rw [if_pos (by rfl)]
        first | refine quiet_move _ rfl ?_ | refine quiet_assign _ rfl ?_
        go_simp
        refine hK _ ?_
        clear hK K
        refine wpQuiet_nil ?_
        refine tree_read rfl ?_
        refine wpQuiet_step (fun K hK => ?_)
        rw [if_pos (by rfl)]
        refine quiet_val (.slice (some ⟨w.heap.size, 0, none⟩) ch N) (fun W hW => by simp [execOp, go_sem, hchN]) ?_
        go_simp
        refine hK _ ?_
        clear hK K
        refine wpQuiet_nil ?_
        refine tree_one rfl ?_
        go_wp2_with (refine wpList_copyB _ rfl _ _ _ rfl eB KB hlp rfl rfl RC rfl (by omega) ?_; intro V5 K5 B5; rw [hd])
        rw [hMO.out] at K5
        refine ⟨trivial, ?_⟩
        refine tree_read rfl ?_
        refine wpQuiet_step (fun K hK => ?_)
        rw [if_pos (by rfl)]
        refine quiet_val (.int .i64 (p2 : Int)) (fun W hW => by simp [execOp, go_sem, hadd]) ?_
        go_simp
        refine hK _ ?_
        clear hK K
        refine wpQuiet_nil ?_
        refine tree_read rfl ?_
        refine wpQuiet_step (fun K hK => ?_)
        rw [if_pos (by rfl)]
        first | refine quiet_move _ rfl ?_ | refine quiet_assign _ rfl ?_
        go_simp
        refine hK _ ?_
        clear hK K
        refine wpQuiet_nil ?_
        refine tree_nil ?_
        clear KB RC
        go_wp2
        go_roundw
        case rel => exact ⟨q + min j (k - q), p2, by omega, by omega, hP2.out, rfl, K5, BB.trans B5, Nat.lt_of_lt_of_le hH B5.size⟩
        case measure => simp [intOf]; omega
      · obtain rfl : q = k := by omega
        obtain rfl : p = N := by rw [← hqp, hNk]
        have RF := KB.rd (m := p) (by rw [rpL_len, HL.out, hqp]; exact Nat.le_refl _) hH
        rw [List.take_of_length_le (by rw [rpL_len, HL.out, hqp]; exact Nat.le_refl _)] at RF
        clear KB
        go_wp2
        go_ret
        exact ⟨_, p, p, rfl, Nat.le_refl _, Nat.le_refl _, RF, BB⟩
  · have hbig' : 8192 < (N : Int) := by omega
    obtain ⟨m, hm⟩ : ∃ m : Nat, 8192 / n = m := ⟨_, rfl⟩
    obtain ⟨C, hC⟩ : ∃ C : Nat, m * n = C := ⟨_, rfl⟩
    have hm1 : 1 ≤ m := by rw [← hm]; exact (Nat.le_div_iff_mul_le (by omega)).2 (by omega)
    have hC0 : C ≤ 8192 := by rw [← hC, ← hm]; exact Nat.div_mul_le_self _ _
    have hC1 : 1 * 1 ≤ C := by rw [← hC]; exact Nat.mul_le_mul hm1 h1
    have hq : IntKind.i64.wrap (8192 / (n : Int) * (n : Int)) = (C : Int) := by
      have e : (8192 / (n : Int) * (n : Int)) = (C : Int) := by
        rw [← hC, ← hm, Int.natCast_mul, Int.natCast_ediv]
        rfl
      rw [e]
      exact IntWalk.i64_in _ (by omega)
    have hC2 : 1 ≤ (C : Int) := by omega
    have HM : Hid (∃ m, 1 ≤ m ∧ m * n = C) := Lib.hid ⟨m, hm1, hC⟩
    clear hm hC hm1 hC1
    go_enter Try.func51, Try.ntmps51
    go_wp2_with (first
      | (go_at_call 70; (with_reducible refine (CM.out _).mono ?_); rintro _ _ ⟨rfl, rfl⟩)
      | (refine wpList_copyB _ rfl _ _ _ rfl eB K0 rfl rfl rfl RM rfl h1 ?_; intro W1 K1 B1))
    have h10 : min n N = 1 * n := by rw [Nat.one_mul]; refine Nat.min_eq_left ?_; rw [← HN.out]; exact Nat.le_mul_of_pos_right n hk
    have KS : BufI W1 w.heap.size N (rpL l 1) := by
      have e : ([] : List Int) ++ List.take (N - 0) l = rpL l 1 := by
        show List.take (N - 0) l = [] ++ l
        rw [List.nil_append, List.take_of_length_le]
        rw [HL.out, ← HN.out]
        exact Nat.le_trans (Nat.le_mul_of_pos_right n hk) (Nat.le_refl _)
      rw [← e]
      exact K1
    have KH := Lib.hid KS
    have BS := BM.trans B1
    have hS : w.heap.size < W1.heap.size := Nat.lt_of_lt_of_le h0 B1.size
    clear K0 K1 KS B1 RM BM h0 hcall
    go_loopw [10] (fun t wr => ∃ q p : Nat, 1 ≤ q ∧ q ≤ k ∧ q * n = p ∧ t = .int .i64 (p : Int) ∧ BufI wr w.heap.size N (rpL l q) ∧ Below w.heap.size w wr ∧ w.heap.size < wr.heap.size) (fun t _ => N - (intOf t).toNat)
    case atStart => exact ⟨1, min n N, by omega, hk, h10.symm, rfl, KH.out, BS, hS⟩
    case round =>
      clear KH BS hS h10
      obtain ⟨q, p, hq1, hqk, hqp, rfl, KB, BB, hH⟩ := hrel
      have hNk : k * n = N := by rw [Nat.mul_comm]; exact HN.out
      by_cases hlt : q < k
      · obtain ⟨m, hm1, hmC⟩ := HM.out
        obtain ⟨j, hj⟩ : ∃ j, min q m = j := ⟨_, rfl⟩
        obtain ⟨ch, hch⟩ : ∃ ch, j * n = ch := ⟨_, rfl⟩
        have hj1 : 1 ≤ j := by omega
        have hjq : j ≤ q := by omega
        have hch1 : 1 * 1 ≤ ch := by rw [← hch]; exact Nat.mul_le_mul hj1 h1
        have hchp : ch ≤ p := by rw [← hch, ← hqp]; exact Nat.mul_le_mul_right n hjq
        have hpN : q * n + n ≤ N := by rw [← hNk]; have := Nat.mul_le_mul_right n (show q + 1 ≤ k by omega); rwa [Nat.add_mul, Nat.one_mul] at this
        have hcm : ch = min p C := by
          rw [← hch, ← hqp, ← hmC, ← hj]
          rcases Nat.le_total q m with h | h
          · rw [Nat.min_eq_left h, Nat.min_eq_left (Nat.mul_le_mul_right n h)]
          · rw [Nat.min_eq_right h, Nat.min_eq_right (Nat.mul_le_mul_right n h)]
        have hmin : ∀ (ts : Array TypeId) (t : TypeId) (W : World), (Builtin.min_ ts t #[.int .i64 (p : Int), .int .i64 (C : Int)]).run Try.prog W = .ok (.int .i64 (ch : Int)) W := fun ts t W => by
          rw [run_min_int2]
          congr 2
          split <;> omega
        have hmore := rpL_more l hjq hlt
        rw [HL.out, hch, hNk, hqp] at hmore
        have hnp : p + min ch (N - p) = (q + min j (k - q)) * n := by
          rw [Nat.add_mul, ← hqp, ← hch, ← hNk, ← Nat.sub_mul]
          congr 1
          rcases Nat.le_total j (k - q) with h | h
          · rw [Nat.min_eq_left h, Nat.min_eq_left (Nat.mul_le_mul_right n h)]
          · rw [Nat.min_eq_right h, Nat.min_eq_right (Nat.mul_le_mul_right n h)]
        have RC := KB.rd (m := ch) (by rw [rpL_len, HL.out, hqp]; exact hchp) (show w.heap.size < wr.heap.size by exact hH)
        have hlp : (rpL l q).length = p := by rw [rpL_len, HL.out, hqp]
        obtain ⟨p2, hp2⟩ : ∃ p2, (q + min j (k - q)) * n = p2 := ⟨_, rfl⟩
        have hp2N : p2 ≤ N := by rw [← hp2, ← hNk]; exact Nat.mul_le_mul_right n (by omega)
        obtain ⟨d, hd⟩ : ∃ d, min ch (N - p) = d := ⟨_, rfl⟩
        rw [hd, hp2] at hnp
        have hd1 : 1 ≤ d := by omega
        have hadd : IntKind.i64.wrap ((p : Int) + (d : Int)) = (p2 : Int) := by rw [show (p : Int) + (d : Int) = (p2 : Int) by omega]; exact IntWalk.i64_in _ (by omega)
        have hMO := Lib.hid hmore
        have hP2 := Lib.hid hp2
        have hp1 : p < N := by omega
        have hpI : (p : Int) < (N : Int) := by omega
        have hchN : (ch : Int) ≤ (N : Int) := by omega
        have hNe : ¬ N = p := by omega
        have hpN' : p ≤ N := by omega
        have hchN' : ch ≤ N := by omega
        clear hcm hch hchp hpN hmore hmC hj HRT hqp hNk hp2
        go_wp2
        refine wp_region_treeC (fun _ => True) (.read 0 (.read 1 (.read 2 (.read 3 (.read 4 (.read 5 (.read 6 (.fork1 7 (.read 8 (.read 9 .nil)))))))))) (by kernel_rfl) (by kernel_rfl) (fun W hB => trivial) ?_
        intro V3 B
        replace KB := KB.on hH B
        replace RC := RC.on B
        replace hH := Nat.lt_of_lt_of_le hH B.size
        replace BB := bon BB B
        clear B
        refine tree_read rfl ?_
        refine wpQuiet_step (fun K hK => ?_)
        rw [if_pos (by rfl)]
        first | refine quiet_move _ rfl ?_ | refine quiet_assign _ rfl ?_
        go_simp
        refine hK _ ?_
        clear hK K
        refine wpQuiet_nil ?_
        refine tree_read rfl ?_
        refine wpQuiet_step (fun K hK => ?_)
        rw [if_pos (by rfl)]
        first | refine quiet_move _ rfl ?_ | refine quiet_assign _ rfl ?_
        go_simp
        refine hK _ ?_
        clear hK K
        refine wpQuiet_nil ?_
        refine tree_read rfl ?_
        refine wpQuiet_step (fun K hK => ?_)
        rw [if_pos (by rfl)]
        first | refine quiet_move _ rfl ?_ | refine quiet_assign _ rfl ?_
        go_simp
        refine hK _ ?_
        clear hK K
        refine wpQuiet_nil ?_
        refine tree_read rfl ?_
        refine wpQuiet_step (fun K hK => ?_)
        rw [if_pos (by rfl)]
        refine quiet_val (.slice (some ⟨w.heap.size, p, none⟩) (N - p) (N - p)) (fun W hW => by simp [execOp, go_sem, hNe, hpN']) ?_
        go_simp
        refine hK _ ?_
        clear hK K
        refine wpQuiet_nil ?_
        refine tree_read rfl ?_
        refine wpQuiet_step (fun K hK => ?_)
        rw [if_pos (by rfl)]
        first | refine quiet_move _ rfl ?_ | refine quiet_assign _ rfl ?_
        go_simp
        refine hK _ ?_
        clear hK K
        refine wpQuiet_nil ?_
        refine tree_read rfl ?_
        refine wpQuiet_step (fun K hK => ?_)
        rw [if_pos (by rfl)]
        first | refine quiet_move _ rfl ?_ | refine quiet_assign _ rfl ?_
        go_simp
        refine hK _ ?_
        clear hK K
        refine wpQuiet_nil ?_
        refine tree_read rfl ?_
        refine wpQuiet_step (fun K hK => ?_)
        rw [if_pos (by rfl)]
        refine quiet_val (.slice (some ⟨w.heap.size, 0, none⟩) ch N) (fun W hW => by simp [execOp, go_sem, hchN]) ?_
        go_simp
        refine hK _ ?_
        clear hK K
        refine wpQuiet_nil ?_
        refine tree_one rfl ?_
        go_wp2_with (refine wpList_copyB _ rfl _ _ _ rfl eB KB hlp rfl rfl RC rfl (by omega) ?_; intro V5 K5 B5; rw [hd])
        rw [hMO.out] at K5
        refine ⟨trivial, ?_⟩
        refine tree_read rfl ?_
        refine wpQuiet_step (fun K hK => ?_)
        rw [if_pos (by rfl)]
        refine quiet_val (.int .i64 (p2 : Int)) (fun W hW => by simp [execOp, go_sem, hadd]) ?_
        go_simp
        refine hK _ ?_
        clear hK K
        refine wpQuiet_nil ?_
        refine tree_read rfl ?_
        refine wpQuiet_step (fun K hK => ?_)
        rw [if_pos (by rfl)]
        first | refine quiet_move _ rfl ?_ | refine quiet_assign _ rfl ?_
        go_simp
        refine hK _ ?_
        clear hK K
        refine wpQuiet_nil ?_
        refine tree_nil ?_
        clear KB RC
        go_wp2
        go_roundw
        case rel => exact ⟨q + min j (k - q), p2, by omega, by omega, hP2.out, rfl, K5, BB.trans B5, Nat.lt_of_lt_of_le hH B5.size⟩
        case measure => simp [intOf]; omega
      · obtain rfl : q = k := by omega
        obtain rfl : p = N := by rw [← hqp, hNk]
        have RF := KB.rd (m := p) (by rw [rpL_len, HL.out, hqp]; exact Nat.le_refl _) hH
        rw [List.take_of_length_le (by rw [rpL_len, HL.out, hqp]; exact Nat.le_refl _)] at RF
        clear KB
        go_wp2
        go_ret
        exact ⟨_, p, p, rfl, Nat.le_refl _, Nat.le_refl _, RF, BB⟩

end Go.Proofs.Ytlnbkahpklnfaaa

/- What package image's Fill returns. -/
namespace Go.Proofs.Ytlnbkahpklnfaaa
open Go.RowKit Go.Sort

theorem rept_rpL (b : List Int) (k : Nat) : rept b k = rpL b k := by
  induction k with
  | zero => rfl
  | succ k ih => rw [rept, rpL, ih]

set_option maxRecDepth 100000 in
set_option maxHeartbeats 1000000 in
theorem pfill_b (f wd ht : Int) (A : Option Addr) (n c : Nat) (l : List Int) (x0 x1 x2 x3 : Int) (w : World) (R : Rd w w.heap.size .u8 A n l) (hn : n ≤ 140737488351232) :
    Calls Try.prog 27 #[.agg #[.int .i64 f, .int .i64 wd, .int .i64 ht, .slice A n c], .agg #[.int .i64 x0, .int .i64 x1, .int .i64 x2, .int .i64 x3]] w (GivesI w ((Im.mk f wd ht l).fill x0 x1 x2 x3)) := by
  have z1 : (w.alloc (.cells #[.int .i64 f, .int .i64 wd, .int .i64 ht, .slice A n c] 25)).heap.size = w.heap.size + 1 := by simp
  have z2 : ((w.alloc (.cells #[.int .i64 f, .int .i64 wd, .int .i64 ht, .slice A n c] 25)).alloc (.cells #[.int .i64 x0, .int .i64 x1, .int .i64 x2, .int .i64 x3] 28)).heap.size = w.heap.size + 2 := by simp
  have hsz : (((w.alloc (.cells #[.int .i64 f, .int .i64 wd, .int .i64 ht, .slice A n c] 25)).alloc (.cells #[.int .i64 x0, .int .i64 x1, .int .i64 x2, .int .i64 x3] 28)).alloc (.cells #[.int .i64 0, .int .i64 0, .int .i64 0, .slice none 0 0] 25)).heap.size = w.heap.size + 3 := by simp
  have E0 := IBox.made w f wd ht A n c 25
  have b0 := box_below w #[.int .i64 f, .int .i64 wd, .int .i64 ht, .slice A n c] 25
  have E1 := VBox.made (w.alloc (.cells #[.int .i64 f, .int .i64 wd, .int .i64 ht, .slice A n c] 25)) x0 x1 x2 x3 28
  have b1 := box_below (w.alloc (.cells #[.int .i64 f, .int .i64 wd, .int .i64 ht, .slice A n c] 25)) #[.int .i64 x0, .int .i64 x1, .int .i64 x2, .int .i64 x3] 28
  have D2 := IBox.made ((w.alloc (.cells #[.int .i64 f, .int .i64 wd, .int .i64 ht, .slice A n c] 25)).alloc (.cells #[.int .i64 x0, .int .i64 x1, .int .i64 x2, .int .i64 x3] 28)) 0 0 0 none 0 0 25
  have b2 := box_below ((w.alloc (.cells #[.int .i64 f, .int .i64 wd, .int .i64 ht, .slice A n c] 25)).alloc (.cells #[.int .i64 x0, .int .i64 x1, .int .i64 x2, .int .i64 x3] 28)) #[.int .i64 0, .int .i64 0, .int .i64 0, .slice none 0 0] 25
  have D0 := (E0.on b1).on b2
  have VV := (E1.on b2).1
  have BB := bon (bon b0 b1) b2
  rw [z1] at VV
  rw [z2] at D2
  have hv := fun W => pvalid_b f wd ht A n c l W R.len
  have CC := Lib.hid (fun W R => pclone_b f wd ht A n c l W R hn)
  clear E0 E1 b0 b1 b2 z1 z2
  by_cases hok : (Im.mk f wd ht l).ok
  · rw [show (Im.mk f wd ht l).fill x0 x1 x2 x3 = Im.mk f wd ht (rpL (enc f x0 x1 x2 x3) (wd * ht).toNat) by unfold Im.fill; rw [if_pos hok, rept_rpL]]
    rw [decide_eq_true hok] at hv
    obtain ⟨hz, hw, hh, -⟩ := hok
    simp only at hz hw hh
    have h1 := mul_bds (show 0 ≤ wd by omega) hw.2 (show 0 ≤ ht by omega) hh.2
    have hwh : 1 * 1 ≤ wd * ht := Int.mul_le_mul hw.1 hh.1 (by omega) (by omega)
    have ce := fun W => tencode_b f x0 x1 x2 x3 W
    have he := enc_len f x0 x1 x2 x3
    have h8 := nsz_le f
    obtain ⟨b, hb⟩ : ∃ b, enc f x0 x1 x2 x3 = b := ⟨_, rfl⟩
    rw [hb] at ce he ⊢
    obtain ⟨N, hN⟩ : ∃ N : Nat, wd * ht = N := ⟨(wd * ht).toNat, by omega⟩
    have hN1 : 1 ≤ N := by omega
    have hN4 : N ≤ 4096 := by omega
    have g1 : IntKind.i64.wrap (wd * ht) = N := by rw [hN]; exact IntWalk.i64_in _ (by omega)
    rw [hN, Int.toNat_natCast]
    have cr := fun A n c W (R : Rd W W.heap.size .u8 A n b) => repeat_b A n c N b W R (by rw [← R.len]; omega) (by rw [← R.len]; omega) hN1 hN4
    have HV := Lib.hid hv
    have CE := Lib.hid ce
    have CR := Lib.hid cr
    have HR := Lib.hid R
    clear hv ce cr hb hN h1 he h8 hz R hwh CC
    go_enter Try.func27, Try.ntmps27
    go_wp2_with (first
      | (refine wpList_iload rfl _ _ rfl imgT D0.1 rfl ?_)
      | (go_at_call 11; (with_reducible refine (HV.out _).mono ?_); rintro _ W0 ⟨rfl, B⟩; have HS := B.size; rw [hsz] at HS; replace D0 := D0.on B; replace D2 := D2.on B; replace VV := VV.on B; replace BB := bon BB B; clear B))
    refine wp_region_treeC (fun W => (W.cell? ⟨w.heap.size, 0, none⟩ = some (.int .i64 f) ∧ W.cell? ⟨w.heap.size, 1, none⟩ = some (.int .i64 wd) ∧ W.cell? ⟨w.heap.size, 2, none⟩ = some (.int .i64 ht)) ∧ VecAt W (w.heap.size + 1) x0 x1 x2 x3) (.read 0 (.read 1 (.read 2 (.read 4 (.read 5 (.read 6 (.read 7 (.read 8 (.fork1 3 (.fork1 9 (.read 10 (.fork1 11 .nil)))))))))))) (by kernel_rfl) (by kernel_rfl) (fun W hB => ⟨⟨(D0.1.on hB).1, (D0.1.on hB).2.1, (D0.1.on hB).2.2.1⟩, VV.on hB⟩) ?_
    intro V1 B
    have HS1 := B.size
    replace D0 := D0.on B; replace D2 := D2.on B; replace VV := VV.on B; replace BB := bon BB B; clear B
    refine tree_read rfl ?_
    refine wpQuiet_step (fun K hK => ?_)
    rw [if_pos (by rfl)]
    refine quiet_val (.pointer (some ⟨w.heap.size, 0, none⟩)) (fun W hW => by simp [execOp, go_sem]) ?_
    go_simp
    refine hK _ ?_
    clear hK K
    refine wpQuiet_nil ?_
    refine tree_read rfl ?_
    refine wpQuiet_step (fun K hK => ?_)
    rw [if_pos (by rfl)]
    refine quiet_val (.int .i64 f) (fun W hW => by have h0 := hW.1.1; simp [execOp, go_sem, h0]) ?_
    go_simp
    refine hK _ ?_
    clear hK K
    refine wpQuiet_nil ?_
    refine tree_read rfl ?_
    refine wpQuiet_step (fun K hK => ?_)
    rw [if_pos (by rfl)]
    refine quiet_vload _ _ rfl vecT (fun W hW => hW.2) rfl ?_
    go_simp
    refine hK _ ?_
    clear hK K
    refine wpQuiet_nil ?_
    refine tree_read rfl ?_
    refine wpQuiet_step (fun K hK => ?_)
    rw [if_pos (by rfl)]
    refine quiet_val (.pointer (some ⟨w.heap.size, 1, none⟩)) (fun W hW => by simp [execOp, go_sem]) ?_
    go_simp
    refine hK _ ?_
    clear hK K
    refine wpQuiet_nil ?_
    refine tree_read rfl ?_
    refine wpQuiet_step (fun K hK => ?_)
    rw [if_pos (by rfl)]
    refine quiet_val (.int .i64 wd) (fun W hW => by have h0 := hW.1.2.1; simp [execOp, go_sem, h0]) ?_
    go_simp
    refine hK _ ?_
    clear hK K
    refine wpQuiet_nil ?_
    refine tree_read rfl ?_
    refine wpQuiet_step (fun K hK => ?_)
    rw [if_pos (by rfl)]
    refine quiet_val (.pointer (some ⟨w.heap.size, 2, none⟩)) (fun W hW => by simp [execOp, go_sem]) ?_
    go_simp
    refine hK _ ?_
    clear hK K
    refine wpQuiet_nil ?_
    refine tree_read rfl ?_
    refine wpQuiet_step (fun K hK => ?_)
    rw [if_pos (by rfl)]
    refine quiet_val (.int .i64 ht) (fun W hW => by have h0 := hW.1.2.2; simp [execOp, go_sem, h0]) ?_
    go_simp
    refine hK _ ?_
    clear hK K
    refine wpQuiet_nil ?_
    refine tree_read rfl ?_
    refine wpQuiet_step (fun K hK => ?_)
    rw [if_pos (by rfl)]
    refine quiet_val (.int .i64 (N : Int)) (fun W hW => by simp [execOp, go_sem, g1]) ?_
    go_simp
    refine hK _ ?_
    clear hK K
    refine wpQuiet_nil ?_
    refine tree_one rfl ?_
    go_wp2_with (go_at_call 42; (with_reducible refine (CE.out _).mono ?_); rintro _ V2 ⟨A2, n2, c2, rfl, hc2, R2, B⟩; have HS2 := B.size; replace D0 := D0.on B; replace D2 := D2.on B; replace VV := VV.on B; replace BB := bon BB B; clear B)
    refine ⟨⟨⟨D0.1.1, D0.1.2.1, D0.1.2.2.1⟩, VV⟩, ?_⟩
    refine tree_one rfl ?_
    go_wp2_with (go_at_call 51; (with_reducible refine (CR.out _ _ _ _ R2).mono ?_); rintro _ V3 ⟨b3, n3, c3, rfl, hc3, hb3, R3, B⟩; have HS3 := B.size; replace D0 := D0.on B; replace D2 := D2.on B; replace VV := VV.on B; replace BB := bon BB B; clear B)
    refine ⟨⟨⟨D0.1.1, D0.1.2.1, D0.1.2.2.1⟩, VV⟩, ?_⟩
    refine tree_read rfl ?_
    refine wpQuiet_step (fun K hK => ?_)
    rw [if_pos (by rfl)]
    refine quiet_val (.pointer (some ⟨w.heap.size, 3, none⟩)) (fun W hW => by simp [execOp, go_sem]) ?_
    go_simp
    refine hK _ ?_
    clear hK K
    refine wpQuiet_nil ?_
    refine tree_one rfl ?_
    have i3 := D0.1.2.2.2
    have f3 := D0.2 3
    have RS : Below w.heap.size V3 (V3.setCell ⟨w.heap.size, 3, none⟩ (.slice (some ⟨b3, 0, none⟩) n3 c3)) := (Below.refl _ _).setCell (by simp) _
    go_wp2
    have E0 := D0.setData (some ⟨b3, 0, none⟩) n3 c3
    have E2 := D2.setOther (b' := w.heap.size) (j := 3) (by omega) (.slice (some ⟨b3, 0, none⟩) n3 c3)
    have EV : VecAt (V3.setCell ⟨w.heap.size, 3, none⟩ (.slice (some ⟨b3, 0, none⟩) n3 c3)) (w.heap.size + 1) x0 x1 x2 x3 :=
      ⟨(World.cell?_setCell_far V3 ⟨w.heap.size, 3, none⟩ ⟨w.heap.size + 1, 0, none⟩ _ (by simp)).trans VV.1, (World.cell?_setCell_far V3 ⟨w.heap.size, 3, none⟩ ⟨w.heap.size + 1, 1, none⟩ _ (by simp)).trans VV.2.1, (World.cell?_setCell_far V3 ⟨w.heap.size, 3, none⟩ ⟨w.heap.size + 1, 2, none⟩ _ (by simp)).trans VV.2.2.1, (World.cell?_setCell_far V3 ⟨w.heap.size, 3, none⟩ ⟨w.heap.size + 1, 3, none⟩ _ (by simp)).trans VV.2.2.2⟩
    have R4 := Lib.hid ((R3.past (Nat.le_refl _) (grownBy_setCell V3 w.heap.size 3 (.slice (some ⟨b3, 0, none⟩) n3 c3)) (by omega)).more RS.size)
    have BB5 := BB.trans RS
    have hszV : (V3.setCell ⟨w.heap.size, 3, none⟩ (.slice (some ⟨b3, 0, none⟩) n3 c3)).heap.size = V3.heap.size := by simp
    obtain ⟨V4, hV4⟩ : ∃ V4, V3.setCell ⟨w.heap.size, 3, none⟩ (.slice (some ⟨b3, 0, none⟩) n3 c3) = V4 := ⟨_, rfl⟩
    rw [hV4] at E0 E2 EV R4 BB5 hszV ⊢
    clear RS i3 f3 D0 D2 VV BB R3 R2 hV4
    refine ⟨⟨⟨E0.1.1, E0.1.2.1, E0.1.2.2.1⟩, EV⟩, ?_⟩
    refine tree_nil ?_
    go_wp2_with (first
      | (refine wpList_iload rfl _ _ rfl imgT E0.1 rfl ?_)
      | (refine wpList_iset rfl _ _ _ rfl rfl rfl E2 (by kernel_rfl) ?_; intro V6 B6 D3 hg hz6; have HG := Lib.hid hg; clear hg))
    obtain ⟨⟨d0, d1, d2, d3⟩, _⟩ := D3
    exact bodyPost_ret (v := .agg #[.int .i64 f, .int .i64 wd, .int .i64 ht, .slice (some ⟨b3, 0, none⟩) n3 c3]) (by simp [results, Try.results27, go_sem, *]) rfl ⟨_, n3, c3, rfl, hc3, (R4.out.past (Nat.le_refl _) HG.out (by omega)).more (Nat.le_of_eq hz6.symm), BB5.trans (B6.mono (by omega))⟩
  · rw [show (Im.mk f wd ht l).fill x0 x1 x2 x3 = Im.mk f wd ht l from if_neg hok]
    rw [decide_eq_false hok] at hv
    have HV := Lib.hid hv
    have HR := Lib.hid R
    clear hv hok R VV
    go_enter Try.func27, Try.ntmps27
    go_wp2_with (first
      | (refine wpList_iload rfl _ _ rfl imgT D0.1 rfl ?_)
      | (go_at_call 11; (with_reducible refine (HV.out _).mono ?_); rintro _ W0 ⟨rfl, B⟩; replace D0 := D0.on B; replace D2 := D2.on B; have HS := B.size; rw [hsz] at HS; clear hsz; replace BB := bon BB B; clear B)
      | (go_at_call 29; (with_reducible refine (CC.out _ ((HR.out.below BB).more BB.size)).mono ?_); rintro _ V1 ⟨A1, n1, c1, rfl, own1, B⟩; replace D0 := D0.on B; replace D2 := D2.on B; have HO1 := Lib.hid own1; clear own1; replace BB := bon BB B; clear B)
      | (refine wpList_iset rfl _ _ _ rfl rfl rfl D2 (by kernel_rfl) ?_; intro V2 B3 D3 hg hz; have HG := Lib.hid hg; clear hg))
    obtain ⟨⟨d0, d1, d2, d3⟩, _⟩ := D3
    exact bodyPost_ret (v := .agg #[.int .i64 f, .int .i64 wd, .int .i64 ht, .slice A1 n1 c1]) (by simp [results, Try.results27, go_sem, *]) rfl (GivesIO.i ⟨A1, n1, c1, rfl, (HO1.out.past HG.out (by omega)).weak (by omega), BB.trans (B3.mono (by omega))⟩)

end Go.Proofs.Ytlnbkahpklnfaaa
