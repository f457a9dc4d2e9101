/- The ranges of what is computed; the walk of IsaRanges. -/
import Derived.Test.YtnhnbblplnhmlaaDoorU10
namespace Go.Proofs.YtnhnbblplnhmlaaDoor
set_option linter.unusedSimpArgs false
open Go.RowKit Go.Sort Go.ChangeShapes Go.WideShapes
set_option linter.unusedVariables false

/-- A number of 32 bits. -/
def R32 (x : Int) : Prop := -2147483648 ≤ x ∧ x ≤ 2147483647

theorem R32.sat (x : Int) : R32 (sat x) := by have := sat_bd x; unfold R32; omega
theorem R32.tru (b : Bool) : R32 (tru b) := by cases b <;> (unfold R32; decide)

theorem decv_rng (p : Int) : R32 (decv 5 10 p) := by
  have h : ∀ E M, -536870911 ≤ decm 5 10 E M ∧ decm 5 10 E M ≤ 536870911 := fun E M => by
    unfold decm
    split
    · split <;> decide
    · unfold decu; exact sat_bd _
  have h1 := h (pexp 5 10 p) (pman 10 p)
  obtain ⟨d, hd⟩ : ∃ d, decm 5 10 (pexp 5 10 p) (pman 10 p) = d := ⟨_, rfl⟩
  rw [hd] at h1
  have e : decv 5 10 p = if pneg 5 10 p = true then -d else d := by rw [← hd]; rfl
  rw [R32, e]
  cases pneg 5 10 p
  · rw [if_neg (by decide)]; omega
  · rw [if_pos rfl]; omega

theorem R32.ite {c : Prop} [Decidable c] {x y : Int} (hx : c → R32 x) (hy : ¬c → R32 y) : R32 (if c then x else y) := by
  by_cases h : c
  · rw [if_pos h]; exact hx h
  · rw [if_neg h]; exact hy h

theorem R32.of {x : Int} (h1 : -2147483648 ≤ x) (h2 : x ≤ 2147483647) : R32 x := ⟨h1, h2⟩

theorem unv_rng (o a : Int) (h : o ≠ 2) (h2 : 23 ≤ o) (h3 : o ≤ 35) : R32 (unv o a) := by
  unfold unv
  refine R32.ite (fun _ => ?_) fun k1 => ?_
  · unfold absv
    exact R32.ite (fun _ => R32.sat _) fun _ => R32.sat _
  refine R32.ite (fun _ => wrapv_rng _) fun k2 => ?_
  refine R32.ite (fun _ => R32.sat _) fun k3 => ?_
  refine R32.ite (fun _ => wrapv_rng _) fun k4 => ?_
  refine R32.ite (fun _ => ?_) fun k5 => ?_
  · have := wrapv_rng a; exact R32.of (by omega) (by omega)
  refine R32.ite (fun _ => R32.tru _) fun k6 => ?_
  refine R32.ite (fun _ => R32.sat _) fun k7 => ?_
  refine R32.ite (fun _ => ?_) fun k8 => ?_
  · have := fractv_bd a; exact R32.of (by omega) (by omega)
  refine R32.ite (fun _ => ?_) fun k9 => ?_
  · have := sqrtv_bd a; exact R32.of (by omega) (by omega)
  refine R32.ite (fun _ => decv_rng _) fun k10 => ?_
  refine R32.ite (fun _ => R32.sat _) fun k11 => ?_
  refine R32.ite (fun _ => ?_) fun k12 => ?_
  · have := sat_bd a; exact R32.of (by omega) (by omega)
  refine R32.ite (fun _ => R32.tru _) fun k13 => ?_
  omega

theorem biv_rng (o a b : Int) (h1 : o ≠ 21) (h2 : o ≠ 22) : R32 (biv o a b) := by
  unfold biv
  refine R32.ite (fun _ => R32.sat _) fun k1 => ?_
  refine R32.ite (fun _ => R32.sat _) fun k2 => ?_
  refine R32.ite (fun _ => R32.sat _) fun k3 => ?_
  refine R32.ite (fun _ => ?_) fun k4 => ?_
  · have := divv_bd a b; exact R32.of (by omega) (by omega)
  refine R32.ite (fun _ => R32.tru _) fun k5 => ?_
  refine R32.ite (fun _ => R32.tru _) fun k6 => ?_
  refine R32.ite (fun _ => R32.tru _) fun k7 => ?_
  refine R32.ite (fun _ => R32.tru _) fun k8 => ?_
  refine R32.ite (fun q => absurd q h1) fun k9 => ?_
  refine R32.ite (fun q => absurd q h2) fun k10 => ?_
  have w1 := wrapv_rng a
  have w2 := wrapv_rng b
  exact inv_rng o _ _ w1.1 w1.2 w2.1 w2.2

theorem tru_01 (b : Bool) : tru b = 0 ∨ tru b = 1 := by cases b <;> simp [tru]

theorem comp_a (o a b c i : Int) (h : o = 1 ∨ o = 2 ∨ o = 21 ∨ o = 22 ∨ o = 36) : comp o a b c i = i ∨ comp o a b c i = a ∨ comp o a b c i = b ∨ comp o a b c i = c := by
  rcases h with rfl | rfl | rfl | rfl | rfl
  · exact .inl rfl
  · exact .inr (.inl rfl)
  · have e : comp 21 a b c i = min a b := rfl
    rw [e]; omega
  · have e : comp 22 a b c i = max a b := rfl
    rw [e]; omega
  · have e : comp 36 a b c i = if a = 0 then c else b := rfl
    rw [e]; split
    · exact .inr (.inr (.inr rfl))
    · exact .inr (.inr (.inl rfl))

theorem comp_b (o a b c i : Int) (h : o = 17 ∨ o = 18 ∨ o = 19 ∨ o = 20 ∨ o = 28 ∨ o = 35) : comp o a b c i = 0 ∨ comp o a b c i = 1 := by
  rcases h with rfl | rfl | rfl | rfl | rfl | rfl <;> exact tru_01 _

theorem comp_c (o a b c i : Int) (h1 : o ≠ 1) (h2 : o ≠ 2) (h3 : o ≠ 21) (h4 : o ≠ 22) (h5 : o ≠ 36) : R32 (comp o a b c i) := by
  unfold comp
  refine R32.ite (fun h => ?_) fun _ => ?_
  · exfalso; unfold cl at h; grind (splits := 40)
  refine R32.ite (fun h => ?_) fun _ => ?_
  · rcases cl_un' h with q | ⟨q1, q2⟩
    · exact absurd q h2
    · exact unv_rng o a h2 q1 q2
  refine R32.ite (fun h => ?_) fun _ => ?_
  · exact biv_rng o a b h3 h4
  refine R32.ite (fun h => ?_) fun _ => ?_
  · exfalso; unfold cl at h; grind (splits := 40)
  · exact R32.of (by decide) (by decide)

set_option maxRecDepth 100000 in
set_option maxHeartbeats 4000000 in
theorem ranges_walk (x : In) (w : World) (LL : Lay6 w) : Calls Tryd.prog 6 #[.agg (inA x)] w fun e w' => e = .returned (.bool true) ∧ Below w.heap.size w w' := by
  obtain ⟨c0, c1, c2, c3, c4, c5, BB⟩ := boxI w x 40
  have CC := Lib.hid (fun W => compute_b x.o x.a x.b x.c x.i W)
  have HA := comp_a x.o x.a x.b x.c x.i
  have HB := comp_b x.o x.a x.b x.c x.i
  have HC := comp_c x.o x.a x.b x.c x.i
  obtain ⟨X, hX⟩ : ∃ X, comp x.o x.a x.b x.c x.i = X := ⟨_, rfl⟩
  rw [hX] at CC HA HB HC
  obtain ⟨o, ho⟩ : ∃ o, x.o = o := ⟨_, rfl⟩
  rw [ho] at CC HA HB HC c0
  have HL := Lib.hid LL
  clear hX ho LL
  by_cases hA : o = 1 ∨ o = 2 ∨ o = 21 ∨ o = 22 ∨ o = 36
  · have hv := HA hA
    clear HA HB HC
    by_cases q1 : X = x.i
    · subst q1
      rcases hA with rfl | rfl | rfl | rfl | rfl
      all_goals
        go_enter Tryd.func6, Tryd.ntmps6
        go_wp2_with (first
          | (go_at_call 27; (with_reducible refine (CC.out _).mono ?_); rintro _ _ ⟨rfl, B⟩; (replace BB := bon BB B; replace c0 := cell_below B c0; replace c2 := cell_below B c2; replace c3 := cell_below B c3; replace c4 := cell_below B c4; replace c5 := cell_below B c5); clear B)
          | (go_at_call 17; (with_reducible refine (example_b _ (HL.out.on BB)).mono ?_); rintro _ _ ⟨rfl, B⟩; replace BB := bon BB B; clear B))
        go_ret
        exact ⟨rfl, BB⟩
    have e1 : (X == x.i) = false := by simpa using q1
    by_cases q2 : X = x.a
    · subst q2
      clear q1 hv
      rcases hA with rfl | rfl | rfl | rfl | rfl
      all_goals
        go_enter Tryd.func6, Tryd.ntmps6
        go_wp2_with (first
          | (go_at_call 27; (with_reducible refine (CC.out _).mono ?_); rintro _ _ ⟨rfl, B⟩; (replace BB := bon BB B; replace c0 := cell_below B c0; replace c2 := cell_below B c2; replace c3 := cell_below B c3; replace c4 := cell_below B c4; replace c5 := cell_below B c5); clear B)
          | (go_at_call 17; (with_reducible refine (example_b _ (HL.out.on BB)).mono ?_); rintro _ _ ⟨rfl, B⟩; replace BB := bon BB B; clear B))
        go_ret
        exact ⟨rfl, BB⟩
    have e2 : (X == x.a) = false := by simpa using q2
    by_cases q3 : X = x.b
    · subst q3
      clear q1 q2 hv
      rcases hA with rfl | rfl | rfl | rfl | rfl
      all_goals
        go_enter Tryd.func6, Tryd.ntmps6
        go_wp2_with (first
          | (go_at_call 27; (with_reducible refine (CC.out _).mono ?_); rintro _ _ ⟨rfl, B⟩; (replace BB := bon BB B; replace c0 := cell_below B c0; replace c2 := cell_below B c2; replace c3 := cell_below B c3; replace c4 := cell_below B c4; replace c5 := cell_below B c5); clear B)
          | (go_at_call 17; (with_reducible refine (example_b _ (HL.out.on BB)).mono ?_); rintro _ _ ⟨rfl, B⟩; replace BB := bon BB B; clear B))
        go_ret
        exact ⟨rfl, BB⟩
    have e3 : (X == x.b) = false := by simpa using q3
    obtain rfl : X = x.c := by
      rcases hv with h | h | h | h
      · exact absurd h q1
      · exact absurd h q2
      · exact absurd h q3
      · exact h
    clear q1 q2 q3 hv
    rcases hA with rfl | rfl | rfl | rfl | rfl
    all_goals
      go_enter Tryd.func6, Tryd.ntmps6
      go_wp2_with (first
        | (go_at_call 27; (with_reducible refine (CC.out _).mono ?_); rintro _ _ ⟨rfl, B⟩; (replace BB := bon BB B; replace c0 := cell_below B c0; replace c2 := cell_below B c2; replace c3 := cell_below B c3; replace c4 := cell_below B c4; replace c5 := cell_below B c5); clear B)
        | (go_at_call 17; (with_reducible refine (example_b _ (HL.out.on BB)).mono ?_); rintro _ _ ⟨rfl, B⟩; replace BB := bon BB B; clear B))
      go_ret
      exact ⟨rfl, BB⟩
  by_cases hB : o = 17 ∨ o = 18 ∨ o = 19 ∨ o = 20 ∨ o = 28 ∨ o = 35
  · have hv := HB hB
    clear HA HB HC hA
    rcases hv with rfl | rfl
    all_goals
      rcases hB with rfl | rfl | rfl | rfl | rfl | rfl
      all_goals
        go_enter Tryd.func6, Tryd.ntmps6
        go_wp2_with (first
          | (go_at_call 27; (with_reducible refine (CC.out _).mono ?_); rintro _ _ ⟨rfl, B⟩; (replace BB := bon BB B; replace c0 := cell_below B c0; replace c2 := cell_below B c2; replace c3 := cell_below B c3; replace c4 := cell_below B c4; replace c5 := cell_below B c5); clear B)
          | (go_at_call 17; (with_reducible refine (example_b _ (HL.out.on BB)).mono ?_); rintro _ _ ⟨rfl, B⟩; replace BB := bon BB B; clear B))
        go_ret
        exact ⟨rfl, BB⟩
  have hr := HC (by omega) (by omega) (by omega) (by omega) (by omega)
  unfold R32 at hr
  have n1 : (o == 1) = false := by simp; omega
  have n2 : (o == 2) = false := by simp; omega
  have n21 : (o == 21) = false := by simp; omega
  have n22 : (o == 22) = false := by simp; omega
  have n36 : (o == 36) = false := by simp; omega
  have n17 : (o == 17) = false := by simp; omega
  have n18 : (o == 18) = false := by simp; omega
  have n19 : (o == 19) = false := by simp; omega
  have n20 : (o == 20) = false := by simp; omega
  have n28 : (o == 28) = false := by simp; omega
  have n35 : (o == 35) = false := by simp; omega
  clear HA HB HC hA hB
  go_enter Tryd.func6, Tryd.ntmps6
  go_wp2_with (first
    | (go_at_call 27; (with_reducible refine (CC.out _).mono ?_); rintro _ _ ⟨rfl, B⟩; (replace BB := bon BB B; replace c0 := cell_below B c0; replace c2 := cell_below B c2; replace c3 := cell_below B c3; replace c4 := cell_below B c4; replace c5 := cell_below B c5); clear B)
    | (go_at_call 17; (with_reducible refine (example_b _ (HL.out.on BB)).mono ?_); rintro _ _ ⟨rfl, B⟩; replace BB := bon BB B; clear B))
  go_ret
  exact ⟨rfl, BB⟩

end Go.Proofs.YtnhnbblplnhmlaaDoor
