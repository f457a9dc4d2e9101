/- What the small functions of package texel return; UNorm, FromUNorm; where a component lies. -/
import Derived.Test.YtcjlgfadjedgbaaT6a
namespace Go.Proofs.Ytcjlgfadjedgbaa
open Go.RowKit Go.Sort

theorem of_q {f : FuncId} {args : Array Value} {w : World} {v : Value} (h : Calls Try.prog f args w fun e w' => e = .returned v ∧ w = w') : Calls Try.prog f args w fun e w' => e = .returned v ∧ Below w.heap.size w w' :=
  h.mono (by rintro _ _ ⟨rfl, rfl⟩; exact ⟨rfl, Below.refl _ _⟩)

set_option maxRecDepth 100000 in
theorem tsize_q (f : Int) (w : World) : Calls Try.prog 37 #[.int .i64 f] w fun e w' => e = .returned (.int .i64 (nsz f : Nat)) ∧ w = w' := by
  rcases fmt_cases f with rfl | rfl | rfl | rfl | rfl | rfl | h
  all_goals try (go_enter Try.func37, Try.ntmps37; go_wp2; go_ret; exact ⟨rfl, rfl⟩)
  rw [nsz_none h]
  obtain ⟨h1, h2, h3, h4, h5, h6⟩ := h
  go_enter Try.func37, Try.ntmps37
  go_wp2
  go_ret
  exact ⟨rfl, rfl⟩

set_option maxRecDepth 100000 in
theorem tcomps_q (f : Int) (w : World) : Calls Try.prog 60 #[.int .i64 f] w fun e w' => e = .returned (.int .i64 (ncm f : Nat)) ∧ w = w' := by
  rcases fmt_cases f with rfl | rfl | rfl | rfl | rfl | rfl | h
  all_goals try (go_enter Try.func60, Try.ntmps60; go_wp2; go_ret; exact ⟨rfl, rfl⟩)
  rw [ncm_none h]
  obtain ⟨h1, h2, h3, h4, h5, h6⟩ := h
  go_enter Try.func60, Try.ntmps60
  go_wp2
  go_ret
  exact ⟨rfl, rfl⟩

set_option maxRecDepth 100000 in
theorem tvalid_q (f : Int) (w : World) : Calls Try.prog 57 #[.int .i64 f] w fun e w' => e = .returned (.bool (isf f)) ∧ w = w' := by
  have c := fun W => tsize_q f W
  unfold isf
  obtain ⟨n, hn⟩ : ∃ n, nsz f = n := ⟨_, rfl⟩
  rw [hn] at c ⊢
  have C := Lib.hid c
  clear c hn
  go_enter Try.func57, Try.ntmps57
  go_wp2_with (go_at_call 37; with_reducible refine (C.out _).mono ?_; rintro _ _ ⟨rfl, rfl⟩)
  go_ret
  refine ⟨congrArg (fun b => Ending.returned (.bool b)) ?_, rfl⟩
  cases n <;> simp <;> omega

theorem tsize_b (f : Int) (w : World) : Calls Try.prog 37 #[.int .i64 f] w fun e w' => e = .returned (.int .i64 (nsz f : Nat)) ∧ Below w.heap.size w w' := of_q (tsize_q f w)

theorem tvalid_b (f : Int) (w : World) : Calls Try.prog 57 #[.int .i64 f] w fun e w' => e = .returned (.bool (isf f)) ∧ Below w.heap.size w w' := of_q (tvalid_q f w)

theorem tcomps_b (f : Int) (w : World) : Calls Try.prog 60 #[.int .i64 f] w fun e w' => e = .returned (.int .i64 (ncm f : Nat)) ∧ Below w.heap.size w w' := of_q (tcomps_q f w)

theorem iswidth_q (b : Int) (w : World) : Calls Try.prog 108 #[.int .i64 b] w fun e w' => e = .returned (.bool (decide (1 ≤ b ∧ b ≤ 16))) ∧ w = w' := by
  by_cases h : 1 ≤ b ∧ b ≤ 16
  · rw [decide_eq_true h]
    go_enter Try.func108, Try.ntmps108
    go_wp2
    go_ret
    exact ⟨rfl, rfl⟩
  · rw [decide_eq_false h]
    rcases (show b < 1 ∨ (1 ≤ b ∧ 16 < b) by omega) with h1 | ⟨h1, h2⟩
    all_goals (clear h; go_enter Try.func108, Try.ntmps108; go_wp2; go_ret; exact ⟨congrArg (fun b => Ending.returned (.bool b)) (by simp <;> omega), rfl⟩)

theorem maxunorm_q (b p : Int) (w : World) (h0 : 1 ≤ b) (h1 : b ≤ 16) (hp : IntKind.i64.wrap (2 ^ b.toNat) = p) (p0 : 2 ≤ p) (p1 : p ≤ 65536) : Calls Try.prog 110 #[.int .i64 b] w fun e w' => e = .returned (.int .i64 (p - 1)) ∧ w = w' := by
  go_enter Try.func110, Try.ntmps110
  go_wp2
  go_ret
  exact ⟨rfl, rfl⟩

set_option maxRecDepth 100000 in
theorem ishalf_q (f : Int) (w : World) : Calls Try.prog 84 #[.int .i64 f] w fun e w' => e = .returned (.bool (decide (f = 5 ∨ f = 6))) ∧ w = w' := by
  rcases (show f = 5 ∨ f = 6 ∨ (f ≠ 5 ∧ f ≠ 6) by omega) with rfl | rfl | ⟨h1, h2⟩
  · go_enter Try.func84, Try.ntmps84
    go_wp2
    go_ret
    exact ⟨rfl, rfl⟩
  · go_enter Try.func84, Try.ntmps84
    go_wp2
    go_ret
    exact ⟨rfl, rfl⟩
  · rw [decide_eq_false (show ¬ (f = 5 ∨ f = 6) by omega)]
    go_enter Try.func84, Try.ntmps84
    go_wp2
    go_ret
    exact ⟨congrArg (fun b => Ending.returned (.bool b)) (by simp [h1, h2]), rfl⟩

set_option maxRecDepth 100000 in
theorem tunorm_b (x b : Int) (w : World) : Calls Try.prog 90 #[.int .i64 x, .int .i64 b] w fun e w' => e = .returned (.int .i64 (unv x b)) ∧ Below w.heap.size w w' := by
  have BB : Below w.heap.size w w := Below.refl _ _
  have ci := fun W => of_q (iswidth_q b W)
  by_cases h : 1 ≤ b ∧ b ≤ 16
  · obtain ⟨c, p, z, e1, e2, e3, p0, p1, e4, e5⟩ := unorm_steps (x := x) h
    rw [decide_eq_true h] at ci
    have c1 := fun W => clamp_b x 0 65536 W
    have c2 := fun W => rounddiv_b z 65536 W
    have c3 := fun W => of_q (maxunorm_q b p W h.1 h.2 e3 p0 p1)
    rw [e1] at c1
    rw [e5] at c2
    obtain ⟨u, hu⟩ : ∃ u, unv x b = u := ⟨_, rfl⟩
    rw [hu] at c2 ⊢
    have C1 := Lib.hid c1
    have C2 := Lib.hid c2
    have C3 := Lib.hid c3
    have CI := Lib.hid ci
    clear c1 c2 c3 ci e1 e2 e5 hu e3
    go_enter Try.func90, Try.ntmps90
    go_wp2_with (first | (go_at_call 108; refine (CI.out _).mono ?_; rintro _ _ ⟨rfl, B⟩; replace BB := bon BB B) | (go_at_call 109; refine (C1.out _).mono ?_; rintro _ _ ⟨rfl, B⟩; replace BB := bon BB B) | (go_at_call 110; refine (C3.out _).mono ?_; rintro _ _ ⟨rfl, B⟩; replace BB := bon BB B) | (go_at_call 62; refine (C2.out _).mono ?_; rintro _ _ ⟨rfl, B⟩; replace BB := bon BB B))
    go_ret
    exact ⟨rfl, BB⟩
  · rw [unv_out h]
    rw [decide_eq_false h] at ci
    have CI := Lib.hid ci
    clear h ci
    go_enter Try.func90, Try.ntmps90
    go_wp2_with (first | (go_at_call 108; refine (CI.out _).mono ?_; rintro _ _ ⟨rfl, B⟩; replace BB := bon BB B))
    go_ret
    exact ⟨rfl, BB⟩

set_option maxRecDepth 100000 in
theorem tfromu_b (n b : Int) (w : World) : Calls Try.prog 114 #[.int .i64 n, .int .i64 b] w fun e w' => e = .returned (.int .i64 (fromv n b)) ∧ Below w.heap.size w w' := by
  have BB : Below w.heap.size w w := Below.refl _ _
  have ci := fun W => of_q (iswidth_q b W)
  by_cases h : 1 ≤ b ∧ b ≤ 16
  · obtain ⟨c, p, e1, e3, p0, p1, c0, c4, e5⟩ := fromu_steps (n := n) h
    rw [decide_eq_true h] at ci
    have c1 := fun W => clamp_b n 0 (p - 1) W
    have c2 := fun W => rounddiv_b (c * 65536) (p - 1) W
    have c3 := fun W => of_q (maxunorm_q b p W h.1 h.2 e3 p0 p1)
    rw [e1] at c1
    rw [e5] at c2
    obtain ⟨u, hu⟩ : ∃ u, fromv n b = u := ⟨_, rfl⟩
    rw [hu] at c2 ⊢
    have C1 := Lib.hid c1
    have C2 := Lib.hid c2
    have C3 := Lib.hid c3
    have CI := Lib.hid ci
    clear c1 c2 c3 ci e1 e5 hu e3
    go_enter Try.func114, Try.ntmps114
    go_wp2_with (first | (go_at_call 108; refine (CI.out _).mono ?_; rintro _ _ ⟨rfl, B⟩; replace BB := bon BB B) | (go_at_call 109; refine (C1.out _).mono ?_; rintro _ _ ⟨rfl, B⟩; replace BB := bon BB B) | (go_at_call 110; refine (C3.out _).mono ?_; rintro _ _ ⟨rfl, B⟩; replace BB := bon BB B) | (go_at_call 62; refine (C2.out _).mono ?_; rintro _ _ ⟨rfl, B⟩; replace BB := bon BB B))
    go_ret
    exact ⟨rfl, BB⟩
  · rw [fromv_out h]
    rw [decide_eq_false h] at ci
    have CI := Lib.hid ci
    clear h ci
    go_enter Try.func114, Try.ntmps114
    go_wp2_with (first | (go_at_call 108; refine (CI.out _).mono ?_; rintro _ _ ⟨rfl, B⟩; replace BB := bon BB B))
    go_ret
    exact ⟨rfl, BB⟩

/-- An array of structs by value, read at an index that it has. -/
theorem run_index_in {P : Program} {w : World} (t e : TypeId) (n m : Nat) (cs : Array Value) (k : IntKind) (i : Int) (h : P.underlying t = some (.array n e)) (T : RowType P e m) (h0 : 0 ≤ i) (h1 : i < (n : Int)) :
    (Instr.index t (.agg cs) (.int k i)).run P w = .ok (.agg (cs.extract (i.toNat * m) (i.toNat * m + m))) w := by
  have hn : 0 ≤ i ∧ i < (n : Int) := ⟨h0, h1⟩
  have hS : ∀ W, (sizeOf e).run P W = .ok m W := fun W => by
    have := T.size
    cases hq : P.info? e with
    | none => rw [hq] at this; cases this
    | some x => rw [hq] at this; injection this with this; subst this; simp [Sem.run_bind, sizeOf, typeInfo, hq, Result.andThen]
  simp [Instr.index, run_underlying h, asIntOf, hn, hS, T.agg, go_sem]

theorem fieldT : RowType Try.prog 92 2 := ⟨fun W => by unfold isAgg; rw [Sem.run_bind, run_underlying Try.underlying92 W]; simp, by kernel_rfl⟩

/-- Where a component lies. -/
def PlaceGives (w : World) (s b : Int) (e : Ending) (w' : World) : Prop := e = .returned (.agg #[.int .i64 s, .int .i64 b]) ∧ Below w.heap.size w w'

set_option maxRecDepth 100000 in
set_option maxHeartbeats 1000000 in
theorem place_12 (f : Int) (i : Nat) (w : World) (hf : f = 1 ∨ f = 2) (hi : i ≤ 3) : Calls Try.prog 88 #[.int .i64 f, .int .i64 i] w (PlaceGives w (8 * i) 8) := by
  unfold PlaceGives
  rcases hf with rfl | rfl
  all_goals
    go_enter Try.func88, Try.ntmps88
    go_wp2
    exact bodyPost_ret (v := .agg #[.int .i64 (8 * i), .int .i64 8]) (by simp [results, Try.results88, go_sem]) rfl ⟨rfl, (Below.refl _ _).alloc (Nat.le_refl _) _⟩

set_option maxRecDepth 100000 in
set_option maxHeartbeats 1000000 in
theorem place_30 (w : World) : Calls Try.prog 88 #[.int .i64 3, .int .i64 0] w (PlaceGives w 11 5) := by
  unfold PlaceGives
  have hx : ∀ W : World, (Instr.index 104 (.agg #[.int .i64 11, .int .i64 5, .int .i64 5, .int .i64 6, .int .i64 0, .int .i64 5]) (.int .i64 0)).run Try.prog W = .ok (.agg #[.int .i64 11, .int .i64 5]) W := fun W =>
    run_index_in 104 92 3 2 _ .i64 0 (by kernel_rfl) fieldT (by omega) (by omega)
  go_enter Try.func88, Try.ntmps88
  go_wp2
  exact bodyPost_ret (v := .agg #[.int .i64 11, .int .i64 5]) (by simp [results, Try.results88, go_sem]) rfl ⟨rfl, (Below.refl _ _).alloc (Nat.le_refl _) _⟩

set_option maxRecDepth 100000 in
set_option maxHeartbeats 1000000 in
theorem place_31 (w : World) : Calls Try.prog 88 #[.int .i64 3, .int .i64 1] w (PlaceGives w 5 6) := by
  unfold PlaceGives
  have hx : ∀ W : World, (Instr.index 104 (.agg #[.int .i64 11, .int .i64 5, .int .i64 5, .int .i64 6, .int .i64 0, .int .i64 5]) (.int .i64 1)).run Try.prog W = .ok (.agg #[.int .i64 5, .int .i64 6]) W := fun W =>
    run_index_in 104 92 3 2 _ .i64 1 (by kernel_rfl) fieldT (by omega) (by omega)
  go_enter Try.func88, Try.ntmps88
  go_wp2
  exact bodyPost_ret (v := .agg #[.int .i64 5, .int .i64 6]) (by simp [results, Try.results88, go_sem]) rfl ⟨rfl, (Below.refl _ _).alloc (Nat.le_refl _) _⟩

set_option maxRecDepth 100000 in
set_option maxHeartbeats 1000000 in
theorem place_32 (w : World) : Calls Try.prog 88 #[.int .i64 3, .int .i64 2] w (PlaceGives w 0 5) := by
  unfold PlaceGives
  have hx : ∀ W : World, (Instr.index 104 (.agg #[.int .i64 11, .int .i64 5, .int .i64 5, .int .i64 6, .int .i64 0, .int .i64 5]) (.int .i64 2)).run Try.prog W = .ok (.agg #[.int .i64 0, .int .i64 5]) W := fun W =>
    run_index_in 104 92 3 2 _ .i64 2 (by kernel_rfl) fieldT (by omega) (by omega)
  go_enter Try.func88, Try.ntmps88
  go_wp2
  exact bodyPost_ret (v := .agg #[.int .i64 0, .int .i64 5]) (by simp [results, Try.results88, go_sem]) rfl ⟨rfl, (Below.refl _ _).alloc (Nat.le_refl _) _⟩

set_option maxRecDepth 100000 in
set_option maxHeartbeats 1000000 in
theorem place_40 (w : World) : Calls Try.prog 88 #[.int .i64 4, .int .i64 0] w (PlaceGives w 0 10) := by
  unfold PlaceGives
  have hx : ∀ W : World, (Instr.index 105 (.agg #[.int .i64 0, .int .i64 10, .int .i64 10, .int .i64 10, .int .i64 20, .int .i64 10, .int .i64 30, .int .i64 2]) (.int .i64 0)).run Try.prog W = .ok (.agg #[.int .i64 0, .int .i64 10]) W := fun W =>
    run_index_in 105 92 4 2 _ .i64 0 (by kernel_rfl) fieldT (by omega) (by omega)
  go_enter Try.func88, Try.ntmps88
  go_wp2
  exact bodyPost_ret (v := .agg #[.int .i64 0, .int .i64 10]) (by simp [results, Try.results88, go_sem]) rfl ⟨rfl, (Below.refl _ _).alloc (Nat.le_refl _) _⟩

set_option maxRecDepth 100000 in
set_option maxHeartbeats 1000000 in
theorem place_41 (w : World) : Calls Try.prog 88 #[.int .i64 4, .int .i64 1] w (PlaceGives w 10 10) := by
  unfold PlaceGives
  have hx : ∀ W : World, (Instr.index 105 (.agg #[.int .i64 0, .int .i64 10, .int .i64 10, .int .i64 10, .int .i64 20, .int .i64 10, .int .i64 30, .int .i64 2]) (.int .i64 1)).run Try.prog W = .ok (.agg #[.int .i64 10, .int .i64 10]) W := fun W =>
    run_index_in 105 92 4 2 _ .i64 1 (by kernel_rfl) fieldT (by omega) (by omega)
  go_enter Try.func88, Try.ntmps88
  go_wp2
  exact bodyPost_ret (v := .agg #[.int .i64 10, .int .i64 10]) (by simp [results, Try.results88, go_sem]) rfl ⟨rfl, (Below.refl _ _).alloc (Nat.le_refl _) _⟩

set_option maxRecDepth 100000 in
set_option maxHeartbeats 1000000 in
theorem place_42 (w : World) : Calls Try.prog 88 #[.int .i64 4, .int .i64 2] w (PlaceGives w 20 10) := by
  unfold PlaceGives
  have hx : ∀ W : World, (Instr.index 105 (.agg #[.int .i64 0, .int .i64 10, .int .i64 10, .int .i64 10, .int .i64 20, .int .i64 10, .int .i64 30, .int .i64 2]) (.int .i64 2)).run Try.prog W = .ok (.agg #[.int .i64 20, .int .i64 10]) W := fun W =>
    run_index_in 105 92 4 2 _ .i64 2 (by kernel_rfl) fieldT (by omega) (by omega)
  go_enter Try.func88, Try.ntmps88
  go_wp2
  exact bodyPost_ret (v := .agg #[.int .i64 20, .int .i64 10]) (by simp [results, Try.results88, go_sem]) rfl ⟨rfl, (Below.refl _ _).alloc (Nat.le_refl _) _⟩

set_option maxRecDepth 100000 in
set_option maxHeartbeats 1000000 in
theorem place_43 (w : World) : Calls Try.prog 88 #[.int .i64 4, .int .i64 3] w (PlaceGives w 30 2) := by
  unfold PlaceGives
  have hx : ∀ W : World, (Instr.index 105 (.agg #[.int .i64 0, .int .i64 10, .int .i64 10, .int .i64 10, .int .i64 20, .int .i64 10, .int .i64 30, .int .i64 2]) (.int .i64 3)).run Try.prog W = .ok (.agg #[.int .i64 30, .int .i64 2]) W := fun W =>
    run_index_in 105 92 4 2 _ .i64 3 (by kernel_rfl) fieldT (by omega) (by omega)
  go_enter Try.func88, Try.ntmps88
  go_wp2
  exact bodyPost_ret (v := .agg #[.int .i64 30, .int .i64 2]) (by simp [results, Try.results88, go_sem]) rfl ⟨rfl, (Below.refl _ _).alloc (Nat.le_refl _) _⟩

theorem place_b (f : Int) (i : Nat) (w : World) (hf : f = 1 ∨ f = 2 ∨ f = 3 ∨ f = 4) (hi : i < ncm f) : Calls Try.prog 88 #[.int .i64 f, .int .i64 i] w (PlaceGives w (shf f i) (wdt f i)) := by
  rcases fmt_comp hf hi with ⟨rfl, rfl⟩ | ⟨rfl, h⟩ | ⟨rfl, rfl | rfl | rfl⟩ | ⟨rfl, rfl | rfl | rfl | rfl⟩
  · exact place_12 1 0 w (by omega) (by omega)
  · exact place_12 2 i w (by omega) (by omega)
  · exact place_30 w
  · exact place_31 w
  · exact place_32 w
  · exact place_40 w
  · exact place_41 w
  · exact place_42 w
  · exact place_43 w

end Go.Proofs.Ytcjlgfadjedgbaa
