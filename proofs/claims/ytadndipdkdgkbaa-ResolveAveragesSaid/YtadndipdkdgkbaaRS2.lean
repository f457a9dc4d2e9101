/- The example; the walks of ResolveAverages, ResolveSame. -/
import Derived.Test.YtadndipdkdgkbaaRS1
namespace Go.Proofs.Ytadndipdkdgkbaa
set_option linter.unusedSimpArgs false
open Go.RowKit Go.Sort Go.ChangeShapes Go.WideShapes
set_option linter.unusedVariables false

theorem OwnE.made0 {α : Type} (enc : α → List Value) (k : Nat) (w : World) (e : TypeId) : OwnE enc k (w.alloc (.cells #[] e)) w.heap.size e (some ⟨w.heap.size, 0, none⟩) 0 0 [] :=
  ⟨World.ownsRow_made w #[] 0 (Nat.le_refl _) (by decide) (by simp), by simp, rfl⟩

theorem elCo : ElemE Try.prog 22 24 4 32 := elemE_of Try.underlying22 (by kernel_rfl)

theorem avg_at (A : Option Addr) (n c : Nat) (l : List Co) (x y z q : Int) (h0 : avv Co.x l = x) (h1 : avv Co.y l = y) (h2 : avv Co.z l = z) (h3 : avv Co.q l = q) (w : World) (R : RdE cov4 4 w w.heap.size A n l) (hn : n ≤ 9223372036854775807) : Calls Try.prog 9 #[.slice A n c] w fun e w' => e = .returned (.agg #[.int .i64 x, .int .i64 y, .int .i64 z, .int .i64 q]) ∧ Below w.heap.size w w' := by
  subst h0 h1 h2 h3
  exact avg_b A n c l w R hn

theorem ex_two (w : World) : Calls Try.prog 9 #[.slice (some ⟨w.heap.size, 0, none⟩) 2 2] (w.alloc (.cells #[.int .i64 65536, .int .i64 0, .int .i64 0, .int .i64 0, .int .i64 0, .int .i64 0, .int .i64 0, .int .i64 65536] 24)) fun e w' => e = .returned (.agg #[.int .i64 32768, .int .i64 0, .int .i64 0, .int .i64 32768]) ∧ Below (w.alloc (.cells #[.int .i64 65536, .int .i64 0, .int .i64 0, .int .i64 0, .int .i64 0, .int .i64 0, .int .i64 0, .int .i64 65536] 24)).heap.size (w.alloc (.cells #[.int .i64 65536, .int .i64 0, .int .i64 0, .int .i64 0, .int .i64 0, .int .i64 0, .int .i64 0, .int .i64 65536] 24)) w' := by
  have X := EBox.made w #[.int .i64 65536, .int .i64 0, .int .i64 0, .int .i64 0, .int .i64 0, .int .i64 0, .int .i64 0, .int .i64 65536] 24
  refine avg_at _ 2 2 [⟨65536, 0, 0, 0⟩, ⟨0, 0, 0, 65536⟩] 32768 0 0 32768 (by decide) (by decide) (by decide) (by decide) _ ⟨rfl, fun _ => ⟨_, _, rfl, by simp, fun j c hj => ?_⟩⟩ (by omega)
  match j, hj with
  | 0, hj =>
    have := range_cut X.1 0 4
    simp at hj
    subst hj
    exact this
  | 1, hj =>
    have := range_cut X.1 4 4
    simp at hj
    subst hj
    exact this
  | j + 2, hj => simp at hj

set_option maxRecDepth 100000 in
set_option maxHeartbeats 1000000 in
theorem example41_b (w : World) : Calls Try.prog 11 #[] w fun e w' => e = .returned (.bool true) ∧ Below w.heap.size w w' := by
  have BB := box_below w #[.int .i64 65536, .int .i64 0, .int .i64 0, .int .i64 0, .int .i64 0, .int .i64 0, .int .i64 0, .int .i64 65536] 24
  have C1 := Lib.hid (ex_two w)
  have C2 := Lib.hid (fun W => avg_at none 0 0 [] 0 0 0 0 (avv_nil _) (avv_nil _) (avv_nil _) (avv_nil _) W (RdE.nil _ _ _ _ _) (by omega))
  go_enter Try.func11, Try.ntmps11
  go_wp2_with (first
    | (go_at_call 9; (with_reducible refine (C2.out _).mono ?_); rintro _ W1 ⟨rfl, B⟩; replace BB := bon BB B; clear B)
    | (go_at_call 9; refine C1.out.mono ?_; rintro _ W2 ⟨rfl, B⟩; replace BB := bon BB B; clear B))
  go_ret
  exact ⟨rfl, BB⟩

set_option maxRecDepth 100000 in
theorem averages_walk (A : Option Addr) (n c : Nat) (l : List Co) (w : World) (R : RdE cov4 4 w w.heap.size A n l) (hn : n ≤ 9223372036854775807) : Calls Try.prog 3 #[.slice A n c] w fun e w' => e = .returned (.bool true) ∧ Below w.heap.size w w' := by
  have BB := Below.refl w.heap.size w
  have J := Lib.hid R
  clear R
  go_enter Try.func3, Try.ntmps3
  go_wp2_with (first
    | (go_at_call 9; refine (avg_b _ _ _ _ _ J.out hn).mono ?_; rintro _ W1 ⟨rfl, B⟩; replace BB := bon BB B; replace J := Lib.hid (J.out.on B); clear B)
    | (go_at_call 10; refine (ravg_b _ _ _ _ _ J.out hn).mono ?_; rintro _ W2 ⟨rfl, B⟩; replace BB := bon BB B; skip; clear B)
    | (go_at_call 11; refine (example41_b _).mono ?_; rintro _ W3 ⟨rfl, B⟩; replace BB := bon BB B; skip; clear B))
  go_ret
  exact ⟨rfl, BB⟩

def min4 (a b c d : Int) : Int := min (min (min a b) c) d

def max4 (a b c d : Int) : Int := max (max (max a b) c) d

theorem min_is4 (x y z u : Int) (ts : Array TypeId) (t : TypeId) (w : World) : (Builtin.min_ ts t #[.int .i64 x, .int .i64 y, .int .i64 z, .int .i64 u]).run Try.prog w = .ok (.int .i64 (min4 x y z u)) w := by
  simp [Builtin.min_, Builtin.min2]
  unfold min4
  repeat (first | omega | split)

theorem max_is4 (x y z u : Int) (ts : Array TypeId) (t : TypeId) (w : World) : (Builtin.max_ ts t #[.int .i64 x, .int .i64 y, .int .i64 z, .int .i64 u]).run Try.prog w = .ok (.int .i64 (max4 x y z u)) w := by
  simp [Builtin.max_, Builtin.max2]
  unfold max4
  repeat (first | omega | split)

set_option maxRecDepth 100000 in
theorem same_low (x y z q n mn mx : Int) (hmn : min4 x y z q = mn) (hmx : max4 x y z q = mx) (h0 : n < 1) (w : World) : Calls Try.prog 8 #[.agg #[.int .i64 x, .int .i64 y, .int .i64 z, .int .i64 q], .int .i64 n] w fun e w' => e = .returned (.bool true) ∧ Below w.heap.size w w' := by
  have BB := box_below w #[.int .i64 x, .int .i64 y, .int .i64 z, .int .i64 q] 24
  have X0 := EBox.made w #[.int .i64 x, .int .i64 y, .int .i64 z, .int .i64 q] 24
  have c0 := X0.cell (i := 0) rfl
  have c1 := X0.cell (i := 1) rfl
  have c2 := X0.cell (i := 2) rfl
  have c3 := X0.cell (i := 3) rfl
  clear X0
  have fn := fun ts t w => min_is4 x y z q ts t w
  have fx := fun ts t w => max_is4 x y z q ts t w
  rw [hmn] at fn
  rw [hmx] at fx
  have d1 : decide (n < 1) = true := decide_eq_true (by omega)
  clear hmn hmx
  go_enter Try.func8, Try.ntmps8
  go_wp2_with (go_at_call 11; refine (example41_b _).mono ?_; rintro _ W9 ⟨rfl, B⟩; replace BB := bon BB B; skip; clear B)
  go_ret
  exact ⟨rfl, BB⟩

set_option maxRecDepth 100000 in
theorem same_many (x y z q n mn mx : Int) (hmn : min4 x y z q = mn) (hmx : max4 x y z q = mx) (h0 : ¬ n < 1) (h1 : 64 < n) (w : World) : Calls Try.prog 8 #[.agg #[.int .i64 x, .int .i64 y, .int .i64 z, .int .i64 q], .int .i64 n] w fun e w' => e = .returned (.bool true) ∧ Below w.heap.size w w' := by
  have BB := box_below w #[.int .i64 x, .int .i64 y, .int .i64 z, .int .i64 q] 24
  have X0 := EBox.made w #[.int .i64 x, .int .i64 y, .int .i64 z, .int .i64 q] 24
  have c0 := X0.cell (i := 0) rfl
  have c1 := X0.cell (i := 1) rfl
  have c2 := X0.cell (i := 2) rfl
  have c3 := X0.cell (i := 3) rfl
  clear X0
  have fn := fun ts t w => min_is4 x y z q ts t w
  have fx := fun ts t w => max_is4 x y z q ts t w
  rw [hmn] at fn
  rw [hmx] at fx
  have d1 : decide (n < 1) = false := decide_eq_false (by omega)
  have d2 : decide (64 < n) = true := decide_eq_true (by omega)
  clear hmn hmx
  go_enter Try.func8, Try.ntmps8
  go_wp2_with (go_at_call 11; refine (example41_b _).mono ?_; rintro _ W9 ⟨rfl, B⟩; replace BB := bon BB B; skip; clear B)
  go_ret
  exact ⟨rfl, BB⟩

set_option maxRecDepth 100000 in
theorem same_big (x y z q n mn mx : Int) (hmn : min4 x y z q = mn) (hmx : max4 x y z q = mx) (h0 : ¬ n < 1) (h1 : ¬ 64 < n) (h2 : 536870911 < mx) (w : World) : Calls Try.prog 8 #[.agg #[.int .i64 x, .int .i64 y, .int .i64 z, .int .i64 q], .int .i64 n] w fun e w' => e = .returned (.bool true) ∧ Below w.heap.size w w' := by
  have BB := box_below w #[.int .i64 x, .int .i64 y, .int .i64 z, .int .i64 q] 24
  have X0 := EBox.made w #[.int .i64 x, .int .i64 y, .int .i64 z, .int .i64 q] 24
  have c0 := X0.cell (i := 0) rfl
  have c1 := X0.cell (i := 1) rfl
  have c2 := X0.cell (i := 2) rfl
  have c3 := X0.cell (i := 3) rfl
  clear X0
  have fn := fun ts t w => min_is4 x y z q ts t w
  have fx := fun ts t w => max_is4 x y z q ts t w
  rw [hmn] at fn
  rw [hmx] at fx
  have d1 : decide (n < 1) = false := decide_eq_false (by omega)
  have d2 : decide (64 < n) = false := decide_eq_false (by omega)
  have d3 : decide (536870911 < mx) = true := decide_eq_true (by omega)
  clear hmn hmx
  go_enter Try.func8, Try.ntmps8
  go_wp2_with (go_at_call 11; refine (example41_b _).mono ?_; rintro _ W9 ⟨rfl, B⟩; replace BB := bon BB B; skip; clear B)
  go_ret
  exact ⟨rfl, BB⟩

set_option maxRecDepth 100000 in
theorem same_small (x y z q n mn mx : Int) (hmn : min4 x y z q = mn) (hmx : max4 x y z q = mx) (h0 : ¬ n < 1) (h1 : ¬ 64 < n) (h2 : ¬ 536870911 < mx) (h3 : mn < -536870911) (w : World) : Calls Try.prog 8 #[.agg #[.int .i64 x, .int .i64 y, .int .i64 z, .int .i64 q], .int .i64 n] w fun e w' => e = .returned (.bool true) ∧ Below w.heap.size w w' := by
  have BB := box_below w #[.int .i64 x, .int .i64 y, .int .i64 z, .int .i64 q] 24
  have X0 := EBox.made w #[.int .i64 x, .int .i64 y, .int .i64 z, .int .i64 q] 24
  have c0 := X0.cell (i := 0) rfl
  have c1 := X0.cell (i := 1) rfl
  have c2 := X0.cell (i := 2) rfl
  have c3 := X0.cell (i := 3) rfl
  clear X0
  have fn := fun ts t w => min_is4 x y z q ts t w
  have fx := fun ts t w => max_is4 x y z q ts t w
  rw [hmn] at fn
  rw [hmx] at fx
  have d1 : decide (n < 1) = false := decide_eq_false (by omega)
  have d2 : decide (64 < n) = false := decide_eq_false (by omega)
  have d3 : decide (536870911 < mx) = false := decide_eq_false (by omega)
  have d4 : decide (mn < -536870911) = true := decide_eq_true (by omega)
  clear hmn hmx
  go_enter Try.func8, Try.ntmps8
  go_wp2_with (go_at_call 11; refine (example41_b _).mono ?_; rintro _ W9 ⟨rfl, B⟩; replace BB := bon BB B; skip; clear B)
  go_ret
  exact ⟨rfl, BB⟩

set_option maxRecDepth 100000 in
set_option maxHeartbeats 4000000 in
theorem same_yes (x y z q mn mx : Int) (N : Nat) (hmn : min4 x y z q = mn) (hmx : max4 x y z q = mx) (h1 : 1 ≤ N) (h2 : N ≤ 64) (h3 : ¬ 536870911 < mx) (h4 : ¬ mn < -536870911) (v0 : avv Co.x (List.replicate N ⟨x, y, z, q⟩) = x) (v1 : avv Co.y (List.replicate N ⟨x, y, z, q⟩) = y) (v2 : avv Co.z (List.replicate N ⟨x, y, z, q⟩) = z) (v3 : avv Co.q (List.replicate N ⟨x, y, z, q⟩) = q) (w : World) : Calls Try.prog 8 #[.agg #[.int .i64 x, .int .i64 y, .int .i64 z, .int .i64 q], .int .i64 (N : Int)] w fun e w' => e = .returned (.bool true) ∧ Below w.heap.size w w' := by
  have CA := Lib.hid (fun (A : Option Addr) (c : Nat) (W : World) (R : RdE cov4 4 W W.heap.size A N (List.replicate N ⟨x, y, z, q⟩)) => avg_at A N c _ x y z q v0 v1 v2 v3 W R (by omega))
  clear v0 v1 v2 v3
  have BB := box_below w #[.int .i64 x, .int .i64 y, .int .i64 z, .int .i64 q] 24
  have X0 := EBox.made w #[.int .i64 x, .int .i64 y, .int .i64 z, .int .i64 q] 24
  have c0 := X0.cell (i := 0) rfl
  have c1 := X0.cell (i := 1) rfl
  have c2 := X0.cell (i := 2) rfl
  have c3 := X0.cell (i := 3) rfl
  have Ev4 := range_cut X0.1 0 4
  simp only [List.drop_succ_cons, List.drop_zero, List.take_succ_cons, List.take_zero, Nat.zero_add] at Ev4
  clear X0
  have fn := fun ts t w => min_is4 x y z q ts t w
  have fx := fun ts t w => max_is4 x y z q ts t w
  rw [hmn] at fn
  rw [hmx] at fx
  have d1 : decide ((N : Int) < 1) = false := decide_eq_false (by omega)
  have d2 : decide (64 < (N : Int)) = false := decide_eq_false (by omega)
  have d3 : decide (536870911 < mx) = false := decide_eq_false h3
  have d4 : decide (mn < -536870911) = false := decide_eq_false h4
  have OW := OwnE.made0 cov4 4 (w.alloc (.cells #[.int .i64 x, .int .i64 y, .int .i64 z, .int .i64 q] 24)) 24
  have hsz : (w.alloc (.cells #[.int .i64 x, .int .i64 y, .int .i64 z, .int .i64 q] 24)).heap.size = w.heap.size + 1 := by simp
  rw [hsz] at OW
  have BX : Below (w.alloc (.cells #[.int .i64 x, .int .i64 y, .int .i64 z, .int .i64 q] 24)).heap.size (w.alloc (.cells #[.int .i64 x, .int .i64 y, .int .i64 z, .int .i64 q] 24)) ((w.alloc (.cells #[.int .i64 x, .int .i64 y, .int .i64 z, .int .i64 q] 24)).alloc (.cells #[] 24)) := (Below.refl _ _).alloc (Nat.le_refl _) _
  have E9 := rangeAt_on Ev4 BX
  have B9 := bon BB BX
  have c0' := cell_below BX c0
  clear hmn hmx hsz c0'
  go_enter Try.func8, Try.ntmps8
  go_wp2_with fail
  clear c0 c1 c2 c3 Ev4 BB BX fn fx
  go_loopw [5, 39] (fun s i wr => ∃ (k : Nat) (A : Option Addr) (m c : Nat), k ≤ N ∧ s = .slice A m c ∧ i = .int .i64 (k : Int) ∧ OwnE cov4 4 wr (w.heap.size + 1) 24 A m c (List.replicate k ⟨x, y, z, q⟩) ∧ wr.rangeAt w.heap.size 0 [.int .i64 x, .int .i64 y, .int .i64 z, .int .i64 q] ∧ Below w.heap.size w wr) (fun _ i _ => N - (intOf i).toNat)
  case atStart => exact ⟨0, _, 0, 0, Nat.zero_le _, rfl, rfl, OW, E9, B9⟩
  case round =>
    clear OW E9 B9
    obtain ⟨k, A, m, c, hk, rfl, rfl, OW, Ev4, BB⟩ := hrel
    rename World => wr
    obtain rfl : m = k := by have := OW.len; simpa using this.symm
    by_cases hlt : m < N
    · have OH := Lib.hid OW
      clear OW
      go_wp2_with (first
        | ((with_reducible refine eload4L rk_v4 Ev4 ?_ ?_); focus rfl)
        | (refine wpList_app1E _ rfl _ _ _ rfl coEnc elCo OH.out rfl ⟨x, y, z, q⟩ rfl rfl (by simp only [maxLen]; omega) (by omega) ?_; intro A7 n7 c7 W7 own7 B7; replace BB := BB.trans (B7.mono (by omega)); replace Ev4 := rangeAt_below Ev4 (Nat.lt_succ_self _) B7; have OW7 := Lib.hid own7; clear own7 B7))
      go_roundw
      case rel => exact ⟨m + 1, A7, n7, c7, by omega, rfl, by go_num, by rw [List.replicate_succ']; exact OW7.out, Ev4, BB⟩
      case measure => simp [intOf]; omega
    · obtain rfl : m = N := by omega
      have R := OW.rd coEnc
      clear OW
      go_wp2_with fail
      refine wp_region_quiet_below (by kernel_rfl) (by kernel_rfl) ?_
      repeat (first | ((try simp only [List.getElem_toArray, List.getElem_cons_succ, List.getElem_cons_zero]); go_big_quiet_want; refine quiet_eload _ _ rfl rk_v4 rfl (fun W hW => rangeAt_on Ev4 (below_regrown' hW)) rfl ?_; go_simp; go_big_quiet_on) | ((try simp only [List.getElem_toArray, List.getElem_cons_succ, List.getElem_cons_zero]); go_big_quiet_step ((first | (go_at_call 9; with_reducible exact Calls.regrown_of (CA.out _ _ _ (R.on (below_regrown _ _ _)))) | (go_at_call 11; with_reducible exact Calls.regrown_of (example41_b _))))) | ((try simp only [List.getElem_toArray, List.getElem_cons_succ, List.getElem_cons_zero]); quiet_step ((first | (go_at_call 9; with_reducible exact Calls.regrown_of (CA.out _ _ _ (R.on (below_regrown _ _ _)))) | (go_at_call 11; with_reducible exact Calls.regrown_of (example41_b _))))))
      refine wpQuiet_nil ?_
      intro W9 hw'
      have B9 := below_regrown' hw'
      clear hw'
      replace Ev4 := rangeAt_on Ev4 (B9)
      replace BB := bon BB B9
      clear B9
      go_wp2
      go_ret
      exact ⟨rfl, BB⟩

theorem avv_same (p : Co → Int) (c : Co) (n : Nat) (h1 : 1 ≤ n) (h2 : n ≤ 64) (h3 : -536870911 ≤ p c ∧ p c ≤ 536870911) : avv p (List.replicate n c) = p c := by
  unfold avv
  rw [List.length_replicate, if_neg (by omega), ssum_same, sat_id _ h3.1 h3.2]
  have e1 : -34359738304 ≤ (n : Int) * p c ∧ (n : Int) * p c ≤ 34359738304 := by
    have := ssum_small p (List.replicate n c) (by simp; omega)
    rw [ssum_same, sat_id _ h3.1 h3.2] at this
    exact this
  rw [rda_in _ _ (by omega) (by omega) (by omega) (by omega), Int.mul_comm, rdv_mul_any _ _ (by omega)]

theorem same_walk (x y z q n : Int) (w : World) : Calls Try.prog 8 #[.agg #[.int .i64 x, .int .i64 y, .int .i64 z, .int .i64 q], .int .i64 n] w fun e w' => e = .returned (.bool true) ∧ Below w.heap.size w w' := by
  by_cases h1 : n < 1
  · exact same_low x y z q n _ _ rfl rfl h1 w
  by_cases h2 : 64 < n
  · exact same_many x y z q n _ _ rfl rfl h1 h2 w
  by_cases h3 : 536870911 < max4 x y z q
  · exact same_big x y z q n _ _ rfl rfl h1 h2 h3 w
  by_cases h4 : min4 x y z q < -536870911
  · exact same_small x y z q n _ _ rfl rfl h1 h2 h3 h4 w
  obtain ⟨N, rfl⟩ : ∃ N : Nat, n = N := ⟨n.toNat, by omega⟩
  have hb : (-536870911 ≤ x ∧ x ≤ 536870911) ∧ (-536870911 ≤ y ∧ y ≤ 536870911) ∧ (-536870911 ≤ z ∧ z ≤ 536870911) ∧ (-536870911 ≤ q ∧ q ≤ 536870911) := by
    unfold max4 at h3
    unfold min4 at h4
    omega
  exact same_yes x y z q _ _ N rfl rfl (by omega) (by omega) h3 h4 (avv_same Co.x _ N (by omega) (by omega) hb.1) (avv_same Co.y _ N (by omega) (by omega) hb.2.1) (avv_same Co.z _ N (by omega) (by omega) hb.2.2.1) (avv_same Co.q _ N (by omega) (by omega) hb.2.2.2) w

end Go.Proofs.Ytadndipdkdgkbaa
