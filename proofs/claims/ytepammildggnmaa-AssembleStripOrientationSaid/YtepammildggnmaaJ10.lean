/- '==' of edges, SameEdges, countFirst, Contains, edgesOf. -/
import Derived.Test.YtepammildggnmaaJ9
namespace Go.Proofs.Ytepammildggnmaa
open Go.RowKit Go.Sort Go.ChangeShapes Go.WideShapes
set_option linter.unusedVariables false

theorem guard2 : Try.prog.eqGuardType Try.prog.depth 49 = false := by kernel_rfl
theorem edK : RowK Try.prog 49 2 := ⟨⟨_, Try.underlying49, rfl⟩, by kernel_rfl⟩
theorem elEds : ElemE Try.prog 39 49 2 16 := elemE_of Try.underlying39 (by kernel_rfl)

theorem eq2 (a b d e : Int) (w : World) : (Op.equalIn 10000 49 (.agg #[.int .i64 a, .int .i64 b]) (.agg #[.int .i64 d, .int .i64 e])).run Try.prog w = .ok (a == d && b == e) w := by
  obtain ⟨i, hi⟩ := infoI
  rw [run_equalIn_array w 9999 _ _ Try.underlying49 hi]
  by_cases h1 : a = d <;> by_cases h2 : b = e <;> simp [show List.range 2 = [0, 1] from rfl, Op.eqItems, go_sem, cellsI, h1, h2]

theorem eq2_ne {a b : Ed} (h : a ≠ b) : (a.x == b.x && a.y == b.y) = false := by
  obtain ⟨a1, a2⟩ := a
  obtain ⟨b1, b2⟩ := b
  simp only [Bool.and_eq_false_iff, beq_eq_false_iff_ne]
  by_cases q : a1 = b1
  · exact .inr fun r => h (by rw [q, r])
  · exact .inl q

abbrev RdD (w : World) (B : Nat) (A : Option Addr) (n : Nat) (es : List Ed) : Prop := RdE ed 2 w B A n es
abbrev OwnD (w : World) (base : Nat) (A : Option Addr) (n c : Nat) (es : List Ed) : Prop := OwnE ed 2 w base 49 A n c es

/-- A call that returns a slice of edges. -/
def GivesD (W : World) (es : List Ed) (x : Ending) (w' : World) : Prop := ∃ A n c, x = .returned (.slice A n c) ∧ RdD w' w'.heap.size A n es ∧ Below W.heap.size W w'

set_option maxRecDepth 100000 in
theorem sameEdges_b (A A2 : Option Addr) (n n2 c c2 : Nat) (ts : List Ed) (w : World) (R1 : RdD w w.heap.size A n ts) (R2 : RdD w w.heap.size A2 n2 ts) (hn : n ≤ 9223372036854775807) :
    Calls Try.prog 23 #[.slice A n c, .slice A2 n2 c2] w fun e w' => e = .returned (.bool true) ∧ Below w.heap.size w w' := by
  obtain rfl : n2 = n := by rw [← R1.len, ← R2.len]
  have K1 := Lib.hid R1
  have K2 := Lib.hid R2
  clear R1 R2
  go_enter Try.func23, Try.ntmps23
  go_wp2
  go_loopw [5] (fun i wr => ∃ k : Nat, k ≤ n2 ∧ i = .int .i64 k ∧ Below w.heap.size w wr) (fun i _ => n2 - (intOf i).toNat)
  case atStart => exact ⟨0, Nat.zero_le _, rfl, Below.refl _ _⟩
  case round =>
    obtain ⟨k, hk, rfl, BB⟩ := hrel
    rename World => wr
    by_cases hlt : k < n2
    · obtain ⟨b1, o1, ⟨x, y⟩, rfl, l1, q1, hx⟩ := (K1.out.below BB).at_ hlt
      obtain ⟨b2, o2, T2, rfl, l2, q2, hy⟩ := (K2.out.below BB).at_ hlt
      obtain rfl : T2 = ⟨x, y⟩ := hid_some' hx hy
      have r1 : wr.rangeAt b1 (o1 + k * 2) [.int .i64 x, .int .i64 y] := q1
      have r2 : wr.rangeAt b2 (o2 + k * 2) [.int .i64 x, .int .i64 y] := q2
      have EQ := eq2 x y x y
      simp only [beq_self_eq_true, Bool.and_self] at EQ
      have GU := guard2
      clear hx hy q1 q2 K1 K2
      go_wp2_with fail
      refine wp_region_quiet_below (by kernel_rfl) (by kernel_rfl) ?_
      repeat (first
        | (go_big_quiet_want; refine quiet_eload _ _ rfl edK rfl (fun W hW => rangeAt_on r1 (below_regrown' hW)) rfl ?_; go_simp; go_big_quiet_on)
        | (go_big_quiet_want; refine quiet_eload _ _ rfl edK rfl (fun W hW => rangeAt_on r2 (below_regrown' hW)) rfl ?_; go_simp; go_big_quiet_on)
        | go_big_quiet_step (fail) | quiet_step (fail))
      refine wpQuiet_nil ?_
      intro W hw'
      have B := below_regrown' hw'
      clear hw'
      replace BB := bon BB B
      go_wp2
      go_roundw
      case rel => exact ⟨k + 1, by omega, by go_num, BB⟩
      case measure => simp [intOf]; omega
    · obtain rfl : k = n2 := by omega
      go_wp2
      go_ret
      exact ⟨rfl, BB⟩

set_option maxRecDepth 100000 in
theorem countFirst_b (A : Option Addr) (n c : Nat) (l : List Ed) (e : Ed) (w : World) (R : RdD w w.heap.size A n l) (h0 : l[0]? = some e) (hn : n ≤ 1152921504606846976) :
    Calls Try.prog 33 #[.slice A n c] w fun x w' => x = .returned (.int .i64 (cfst e l : Nat)) ∧ Below w.heap.size w w' := by
  have h1 := cfst_le e l
  rw [R.len] at h1
  have HIN := Lib.hid (fun k (h : k < cfst e l) => cfst_in h)
  have HOUT := Lib.hid (cfst_out (e := e) (l := l))
  rw [R.len] at HOUT
  have H0 := Lib.hid h0
  obtain ⟨q, hq⟩ : ∃ q, cfst e l = q := ⟨_, rfl⟩
  rw [hq] at h1 HIN HOUT ⊢
  have K1 := Lib.hid R
  obtain ⟨ex, ey⟩ := e
  clear R hq h0
  go_enter Try.func33, Try.ntmps33
  go_wp2
  go_loopw [3] (fun i wr => ∃ k : Nat, k ≤ q ∧ i = .int .i64 k ∧ Below w.heap.size w wr) (fun i _ => q - (intOf i).toNat)
  case atStart => exact ⟨0, Nat.zero_le _, rfl, Below.refl _ _⟩
  case round =>
    obtain ⟨k, hk, rfl, BB⟩ := hrel
    rename World => wr
    by_cases hkn : k < n
    · obtain ⟨b1, o1, ⟨x, y⟩, rfl, l1, q1, hx⟩ := (K1.out.below BB).at_ hkn
      obtain ⟨b2, o2, T2, e2, l2, q2, hy⟩ := (K1.out.below BB).at_ (show 0 < n by omega)
      injection e2 with e2
      injection e2 with e2 e2'
      subst e2
      subst e2'
      obtain rfl : T2 = ⟨ex, ey⟩ := hid_some' H0 hy
      have r1 : wr.rangeAt b1 (o1 + k * 2) [.int .i64 x, .int .i64 y] := q1
      have r2 : wr.rangeAt b1 o1 [.int .i64 ex, .int .i64 ey] := by have h := q2; rw [Nat.zero_mul, Nat.add_zero] at h; exact h
      have EQ := eq2 x y ex ey
      have GU := guard2
      have t1 : (k : Int) < (n : Int) := by omega
      have t2 : decide (k < n) = true := decide_eq_true hkn
      have t3 : ¬ (n : Int) ≤ 0 := by omega
      by_cases hlt : k < q
      · obtain ⟨rfl, rfl⟩ : x = ex ∧ y = ey := by
          have h9 := hx.out
          rw [HIN.out k hlt] at h9
          injection h9 with h9
          injection h9 with h9 h8
          exact ⟨h9.symm, h8.symm⟩
        simp only [beq_self_eq_true, Bool.and_self] at EQ
        clear hx hy q1 q2 K1
        go_wp2_with fail
        refine wp_region_quiet_below (by kernel_rfl) (by kernel_rfl) ?_
        repeat (first
          | (go_big_quiet_want; refine quiet_eload _ _ rfl edK rfl (fun W hW => rangeAt_on r1 (below_regrown' hW)) rfl ?_; go_simp; go_big_quiet_on)
          | (go_big_quiet_want; refine quiet_eload _ _ rfl edK rfl (fun W hW => rangeAt_on r2 (below_regrown' hW)) rfl ?_; go_simp; go_big_quiet_on)
          | go_big_quiet_step (fail) | quiet_step (fail))
        refine wpQuiet_nil ?_
        intro W hw'
        have B := below_regrown' hw'
        clear hw'
        replace BB := bon BB B
        go_wp2
        go_roundw
        case rel => exact ⟨k + 1, by omega, by go_num, BB⟩
        case measure => simp [intOf]; omega
      · obtain rfl : k = q := by omega
        obtain ⟨x', hx', hne⟩ := HOUT.out hkn
        obtain rfl : x' = ⟨x, y⟩ := by
          have h9 := hx.out
          rw [hx'] at h9
          injection h9
        have hf := eq2_ne hne
        simp only at hf
        rw [hf] at EQ
        clear hx hy q1 q2 K1 hx' hne hf
        go_wp2_with fail
        refine wp_region_quiet_below (by kernel_rfl) (by kernel_rfl) ?_
        repeat (first
          | (go_big_quiet_want; refine quiet_eload _ _ rfl edK rfl (fun W hW => rangeAt_on r1 (below_regrown' hW)) rfl ?_; go_simp; go_big_quiet_on)
          | (go_big_quiet_want; refine quiet_eload _ _ rfl edK rfl (fun W hW => rangeAt_on r2 (below_regrown' hW)) rfl ?_; go_simp; go_big_quiet_on)
          | go_big_quiet_step (fail) | quiet_step (fail))
        refine wpQuiet_nil ?_
        intro W hw'
        have B := below_regrown' hw'
        clear hw'
        replace BB := bon BB B
        go_wp2
        go_ret
        exact ⟨rfl, BB⟩
    · obtain rfl : k = n := by omega
      obtain rfl : q = k := by omega
      have t1 : ¬ (q : Int) < (q : Int) := by omega
      have t2 : decide (q < q) = false := decide_eq_false (by omega)
      go_wp2_with fail
      refine wp_region_quiet_below (by kernel_rfl) (by kernel_rfl) ?_
      repeat (first | go_big_quiet_step (fail) | quiet_step (fail))
      refine wpQuiet_nil ?_
      intro W hw'
      have B := below_regrown' hw'
      clear hw'
      replace BB := bon BB B
      go_wp2
      go_ret
      exact ⟨rfl, BB⟩

theorem index_nil (e : Ed) (w : World) : Calls Try.prog 42 #[.slice none 0 0, .agg #[.int .i64 e.x, .int .i64 e.y]] w fun x w' => x = .returned (.int .i64 (-1)) ∧ Below w.heap.size w w' := by
  have BB := box_below w #[.int .i64 e.x, .int .i64 e.y] 49
  go_enter Try.func42, Try.ntmps42
  go_wp2
  go_loopw [8] (fun i wr => i = .int .i64 0 ∧ Below w.heap.size w wr) (fun i _ => (intOf i).toNat)
  case atStart => exact ⟨rfl, BB⟩
  case round =>
    clear BB
    obtain ⟨rfl, BB⟩ := hrel
    go_wp2
    go_ret
    exact ⟨rfl, BB⟩

theorem contains_nil (e : Ed) (w : World) : Calls Try.prog 36 #[.slice none 0 0, .agg #[.int .i64 e.x, .int .i64 e.y]] w fun x w' => x = .returned (.bool false) ∧ Below w.heap.size w w' := by
  have BB := box_below w #[.int .i64 e.x, .int .i64 e.y] 49
  go_enter Try.func36, Try.ntmps36
  go_wp2_with (first
    | ((with_reducible refine eload2L edK (EBox.made w #[.int .i64 e.x, .int .i64 e.y] 49).1 ?_ ?_); focus rfl)
    | (go_at_call 42; (refine (index_nil e _).mono ?_); rintro _ W1 ⟨rfl, B⟩; replace BB := bon BB B))
  go_ret
  exact ⟨rfl, BB⟩

theorem contains_b (A : Option Addr) (n c : Nat) (es : List Ed) (e : Ed) (w : World) (R : RdD w w.heap.size A n es) (hA : n = 0 → A = none ∧ c = 0) (hn : n ≤ 9223372036854775807) :
    Calls Try.prog 36 #[.slice A n c, .agg #[.int .i64 e.x, .int .i64 e.y]] w fun x w' => x = .returned (.bool (decide (e ∈ es))) ∧ Below w.heap.size w w' := by
  by_cases h0 : n = 0
  · obtain ⟨rfl, rfl⟩ := hA h0
    subst h0
    have hl : es = [] := List.eq_nil_of_length_eq_zero R.len
    subst hl
    exact (contains_nil e w).mono fun _ _ ⟨h1, h2⟩ => ⟨by rw [h1]; simp, h2⟩
  · obtain ⟨b, off, rfl, hb, hc⟩ := R.2 (by omega)
    have H := Try.slices_Contains 2 Try.isAgg49 Try.sizeOf49 ed (fun _ => rfl) (fun x y : Ed => decide (x = y)) ⟨fun x y W => by
        have h : (Op.equalIn Op.maxDepth 49 (.agg #[.int .i64 x.x, .int .i64 x.y]) (.agg #[.int .i64 y.x, .int .i64 y.y])).run Try.prog W = .ok (x.x == y.x && x.y == y.y) W := eq2 x.x x.y y.x y.y W
        have e1 : (x.x == y.x && x.y == y.y) = decide (x = y) := by
          by_cases q : x = y
          · subst q; simp
          · rw [eq2_ne q, decide_eq_false q]
        rw [e1] at h
        simp [ed, binOp, Op.equal, h], GuardAt.agg _ guard2⟩ b off n c es e w (by rw [R.len]; exact Nat.le_refl _) hn (fun j hj i v hv => by
          have hx := List.getElem?_eq_getElem hj
          have h1 : es[j]! = es[j] := by simp [hj]
          rw [h1] at hv
          exact hc j _ hx i v hv)
    refine H.mono fun _ _ ⟨h1, h2⟩ => ⟨?_, h2⟩
    rw [h1, List.take_of_length_le (by rw [R.len]; exact Nat.le_refl _)]
    congr 2
    by_cases q : e ∈ es
    · rw [decide_eq_true q]
      simpa using q
    · rw [decide_eq_false q]
      simp only [List.any_eq_false, decide_eq_true_eq]
      intro y hy r
      subst r
      exact q hy

end Go.Proofs.Ytepammildggnmaa
