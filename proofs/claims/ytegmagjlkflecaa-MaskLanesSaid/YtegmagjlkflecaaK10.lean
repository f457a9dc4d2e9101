/- The walk of MaskSets. Written by tools/gen/genK10.py. -/
import Derived.Test.YtegmagjlkflecaaK9
namespace Go.Proofs.Ytegmagjlkflecaa
open Go.RowKit Go.Sort

theorem hasB_msk {f : Nat → Bool} {i : Nat} (h : i < 16) : hasB (msk f 16) (i : Int) = f i := by
  rw [hasB_in h, msk_bit, decide_eq_true h, Bool.true_and]

/-- A lane taken away after it was added. -/
theorem without_with (a : Nat) (x : Int) : withoutF (withF a x) x = withoutF a x := by
  unfold withoutF
  refine msk_congr fun i hi => ?_
  unfold withF
  rw [msk_bit, decide_eq_true hi, Bool.true_and]
  by_cases h : (i : Int) = x
  · simp [h]
  · simp [h]

theorem b3 (p x y : Bool) : ((p && x) && (p && y)) = (p && (x && y)) := by cases p <;> cases x <;> cases y <;> rfl
theorem b4 (p x y : Bool) : ((p && x) || (p && y)) = (p && (x || y)) := by cases p <;> cases x <;> cases y <;> rfl
theorem b5 (p x y : Bool) : ((p && x) && !(p && y)) = (p && (x && !y)) := by cases p <;> cases x <;> cases y <;> rfl
theorem b6 (lane : Int) (x : Bool) : (decide (0 ≤ lane ∧ lane < 16) && (x || decide (((lane.toNat : Nat) : Int) = lane))) = decide (0 ≤ lane ∧ lane < 16) := by
  by_cases h : 0 ≤ lane ∧ lane < 16
  · rw [decide_eq_true h, decide_eq_true (show ((lane.toNat : Nat) : Int) = lane by omega)]; simp
  · rw [decide_eq_false h]; rfl
theorem b7 (lane : Int) (x : Bool) : (decide (0 ≤ lane ∧ lane < 16) && (decide (((lane.toNat : Nat) : Int) ≠ lane) && x)) = false := by
  by_cases h : 0 ≤ lane ∧ lane < 16
  · rw [decide_eq_false (show ¬ ((lane.toNat : Nat) : Int) ≠ lane by omega)]; simp
  · rw [decide_eq_false h]; rfl

set_option maxRecDepth 100000 in
theorem sets_case (a b x1 x2 x3 x4 x5 x6 : Nat) (lane : Int) (pa pb inn : Bool) (w : World) (hin : inn = decide (0 ≤ lane ∧ lane < 16)) (hpa : inn = false → pa = false) (hpb : inn = false → pb = false)
    (h6 : inn = true → x6 = x5)
    (G0 : Hid (∀ W, Calls Try.prog 24 #[.int .u16 a] W (GivesL W (lns a))))
    (G00 : Hid (∀ A n c W, Rd W W.heap.size .i64 A n (lns a) → Calls Try.prog 23 #[.slice A n c] W fun e w' => e = .returned (.int .u16 a) ∧ Below W.heap.size W w'))
    (G1 : Hid (∀ W, Calls Try.prog 17 #[.int .u16 a, .int .u16 b] W fun e w' => e = .returned (.int .u16 x1) ∧ Below W.heap.size W w'))
    (G2 : Hid (∀ W, Calls Try.prog 19 #[.int .u16 a, .int .u16 b] W fun e w' => e = .returned (.int .u16 x2) ∧ Below W.heap.size W w'))
    (G3 : Hid (∀ W, Calls Try.prog 21 #[.int .u16 a, .int .u16 b] W fun e w' => e = .returned (.int .u16 x3) ∧ Below W.heap.size W w'))
    (G4 : Hid (∀ W, Calls Try.prog 12 #[.int .u16 a, .int .i64 lane] W fun e w' => e = .returned (.int .u16 x4) ∧ Below W.heap.size W w'))
    (G5 : Hid (∀ W, Calls Try.prog 14 #[.int .u16 a, .int .i64 lane] W fun e w' => e = .returned (.int .u16 x5) ∧ Below W.heap.size W w'))
    (G6 : Hid (∀ W, Calls Try.prog 14 #[.int .u16 x4, .int .i64 lane] W fun e w' => e = .returned (.int .u16 x6) ∧ Below W.heap.size W w'))
    (D1 : Hid (∀ W, Calls Try.prog 10 #[.int .u16 (a : Nat), .int .i64 lane] W fun e w' => e = .returned (.bool pa) ∧ Below W.heap.size W w'))
    (D2 : Hid (∀ W, Calls Try.prog 10 #[.int .u16 (b : Nat), .int .i64 lane] W fun e w' => e = .returned (.bool pb) ∧ Below W.heap.size W w'))
    (D3 : Hid (∀ W, Calls Try.prog 10 #[.int .u16 (x1 : Nat), .int .i64 lane] W fun e w' => e = .returned (.bool (pa && pb)) ∧ Below W.heap.size W w'))
    (D4 : Hid (∀ W, Calls Try.prog 10 #[.int .u16 (x2 : Nat), .int .i64 lane] W fun e w' => e = .returned (.bool (pa || pb)) ∧ Below W.heap.size W w'))
    (D5 : Hid (∀ W, Calls Try.prog 10 #[.int .u16 (x3 : Nat), .int .i64 lane] W fun e w' => e = .returned (.bool (pa && !pb)) ∧ Below W.heap.size W w'))
    (D6 : Hid (∀ W, Calls Try.prog 10 #[.int .u16 (x4 : Nat), .int .i64 lane] W fun e w' => e = .returned (.bool inn) ∧ Below W.heap.size W w'))
    (D7 : Hid (∀ W, Calls Try.prog 10 #[.int .u16 (x5 : Nat), .int .i64 lane] W fun e w' => e = .returned (.bool false) ∧ Below W.heap.size W w')) :
    Calls Try.prog 5 #[.int .u16 a, .int .u16 b, .int .i64 lane] w fun e w' => e = .returned (.bool true) ∧ Below w.heap.size w w' := by
  have BB : Below w.heap.size w w := Below.refl _ _
  by_cases hr : 0 ≤ lane ∧ lane < 16
  · obtain ⟨r1, r2⟩ := hr
    obtain rfl : inn = true := by rw [hin]; simp; omega
    obtain rfl := h6 rfl
    clear hin hpa hpb h6
    cases pa <;> cases pb
    · go_enter Try.func5, Try.ntmps5
      go_wp2_with (first
          | (go_at_call 24; refine (G0.out _).mono ?_; rintro _ W1 ⟨A1, n1, d1, rfl, own1, B⟩; have R1 := own1.rd; clear own1; replace BB := bon BB B; clear B)
          | (go_at_call 23; refine (G00.out _ _ _ _ R1).mono ?_; rintro _ W1 ⟨rfl, B⟩; replace BB := bon BB B; clear B R1)
          | (go_at_call 17; refine (G1.out _).mono ?_; rintro _ W1 ⟨rfl, B⟩; replace BB := bon BB B; clear B)
          | (go_at_call 19; refine (G2.out _).mono ?_; rintro _ W1 ⟨rfl, B⟩; replace BB := bon BB B; clear B)
          | (go_at_call 21; refine (G3.out _).mono ?_; rintro _ W1 ⟨rfl, B⟩; replace BB := bon BB B; clear B)
          | (go_at_call 12; refine (G4.out _).mono ?_; rintro _ W1 ⟨rfl, B⟩; replace BB := bon BB B; clear B)
          | (go_at_call 14; with_reducible refine (G5.out _).mono ?_; rintro _ W1 ⟨rfl, B⟩; replace BB := bon BB B; clear B)
          | (go_at_call 14; with_reducible refine (G6.out _).mono ?_; rintro _ W1 ⟨rfl, B⟩; replace BB := bon BB B; clear B)
          | (go_at_call 10; with_reducible refine (D1.out _).mono ?_; rintro _ W1 ⟨rfl, B⟩; replace BB := bon BB B; clear B)
          | (go_at_call 10; with_reducible refine (D2.out _).mono ?_; rintro _ W1 ⟨rfl, B⟩; replace BB := bon BB B; clear B)
          | (go_at_call 10; with_reducible refine (D3.out _).mono ?_; rintro _ W1 ⟨rfl, B⟩; replace BB := bon BB B; clear B)
          | (go_at_call 10; with_reducible refine (D4.out _).mono ?_; rintro _ W1 ⟨rfl, B⟩; replace BB := bon BB B; clear B)
          | (go_at_call 10; with_reducible refine (D5.out _).mono ?_; rintro _ W1 ⟨rfl, B⟩; replace BB := bon BB B; clear B)
          | (go_at_call 10; with_reducible refine (D6.out _).mono ?_; rintro _ W1 ⟨rfl, B⟩; replace BB := bon BB B; clear B)
          | (go_at_call 10; with_reducible refine (D7.out _).mono ?_; rintro _ W1 ⟨rfl, B⟩; replace BB := bon BB B; clear B)
          | (go_at_call 16; refine (example_b _).mono ?_; rintro _ W1 ⟨rfl, B⟩; replace BB := bon BB B; clear B))
      all_goals go_ret
      all_goals exact ⟨rfl, BB⟩
    · go_enter Try.func5, Try.ntmps5
      go_wp2_with (first
          | (go_at_call 24; refine (G0.out _).mono ?_; rintro _ W1 ⟨A1, n1, d1, rfl, own1, B⟩; have R1 := own1.rd; clear own1; replace BB := bon BB B; clear B)
          | (go_at_call 23; refine (G00.out _ _ _ _ R1).mono ?_; rintro _ W1 ⟨rfl, B⟩; replace BB := bon BB B; clear B R1)
          | (go_at_call 17; refine (G1.out _).mono ?_; rintro _ W1 ⟨rfl, B⟩; replace BB := bon BB B; clear B)
          | (go_at_call 19; refine (G2.out _).mono ?_; rintro _ W1 ⟨rfl, B⟩; replace BB := bon BB B; clear B)
          | (go_at_call 21; refine (G3.out _).mono ?_; rintro _ W1 ⟨rfl, B⟩; replace BB := bon BB B; clear B)
          | (go_at_call 12; refine (G4.out _).mono ?_; rintro _ W1 ⟨rfl, B⟩; replace BB := bon BB B; clear B)
          | (go_at_call 14; with_reducible refine (G5.out _).mono ?_; rintro _ W1 ⟨rfl, B⟩; replace BB := bon BB B; clear B)
          | (go_at_call 14; with_reducible refine (G6.out _).mono ?_; rintro _ W1 ⟨rfl, B⟩; replace BB := bon BB B; clear B)
          | (go_at_call 10; with_reducible refine (D1.out _).mono ?_; rintro _ W1 ⟨rfl, B⟩; replace BB := bon BB B; clear B)
          | (go_at_call 10; with_reducible refine (D2.out _).mono ?_; rintro _ W1 ⟨rfl, B⟩; replace BB := bon BB B; clear B)
          | (go_at_call 10; with_reducible refine (D3.out _).mono ?_; rintro _ W1 ⟨rfl, B⟩; replace BB := bon BB B; clear B)
          | (go_at_call 10; with_reducible refine (D4.out _).mono ?_; rintro _ W1 ⟨rfl, B⟩; replace BB := bon BB B; clear B)
          | (go_at_call 10; with_reducible refine (D5.out _).mono ?_; rintro _ W1 ⟨rfl, B⟩; replace BB := bon BB B; clear B)
          | (go_at_call 10; with_reducible refine (D6.out _).mono ?_; rintro _ W1 ⟨rfl, B⟩; replace BB := bon BB B; clear B)
          | (go_at_call 10; with_reducible refine (D7.out _).mono ?_; rintro _ W1 ⟨rfl, B⟩; replace BB := bon BB B; clear B)
          | (go_at_call 16; refine (example_b _).mono ?_; rintro _ W1 ⟨rfl, B⟩; replace BB := bon BB B; clear B))
      all_goals go_ret
      all_goals exact ⟨rfl, BB⟩
    · go_enter Try.func5, Try.ntmps5
      go_wp2_with (first
          | (go_at_call 24; refine (G0.out _).mono ?_; rintro _ W1 ⟨A1, n1, d1, rfl, own1, B⟩; have R1 := own1.rd; clear own1; replace BB := bon BB B; clear B)
          | (go_at_call 23; refine (G00.out _ _ _ _ R1).mono ?_; rintro _ W1 ⟨rfl, B⟩; replace BB := bon BB B; clear B R1)
          | (go_at_call 17; refine (G1.out _).mono ?_; rintro _ W1 ⟨rfl, B⟩; replace BB := bon BB B; clear B)
          | (go_at_call 19; refine (G2.out _).mono ?_; rintro _ W1 ⟨rfl, B⟩; replace BB := bon BB B; clear B)
          | (go_at_call 21; refine (G3.out _).mono ?_; rintro _ W1 ⟨rfl, B⟩; replace BB := bon BB B; clear B)
          | (go_at_call 12; refine (G4.out _).mono ?_; rintro _ W1 ⟨rfl, B⟩; replace BB := bon BB B; clear B)
          | (go_at_call 14; with_reducible refine (G5.out _).mono ?_; rintro _ W1 ⟨rfl, B⟩; replace BB := bon BB B; clear B)
          | (go_at_call 14; with_reducible refine (G6.out _).mono ?_; rintro _ W1 ⟨rfl, B⟩; replace BB := bon BB B; clear B)
          | (go_at_call 10; with_reducible refine (D1.out _).mono ?_; rintro _ W1 ⟨rfl, B⟩; replace BB := bon BB B; clear B)
          | (go_at_call 10; with_reducible refine (D2.out _).mono ?_; rintro _ W1 ⟨rfl, B⟩; replace BB := bon BB B; clear B)
          | (go_at_call 10; with_reducible refine (D3.out _).mono ?_; rintro _ W1 ⟨rfl, B⟩; replace BB := bon BB B; clear B)
          | (go_at_call 10; with_reducible refine (D4.out _).mono ?_; rintro _ W1 ⟨rfl, B⟩; replace BB := bon BB B; clear B)
          | (go_at_call 10; with_reducible refine (D5.out _).mono ?_; rintro _ W1 ⟨rfl, B⟩; replace BB := bon BB B; clear B)
          | (go_at_call 10; with_reducible refine (D6.out _).mono ?_; rintro _ W1 ⟨rfl, B⟩; replace BB := bon BB B; clear B)
          | (go_at_call 10; with_reducible refine (D7.out _).mono ?_; rintro _ W1 ⟨rfl, B⟩; replace BB := bon BB B; clear B)
          | (go_at_call 16; refine (example_b _).mono ?_; rintro _ W1 ⟨rfl, B⟩; replace BB := bon BB B; clear B))
      all_goals go_ret
      all_goals exact ⟨rfl, BB⟩
    · go_enter Try.func5, Try.ntmps5
      go_wp2_with (first
          | (go_at_call 24; refine (G0.out _).mono ?_; rintro _ W1 ⟨A1, n1, d1, rfl, own1, B⟩; have R1 := own1.rd; clear own1; replace BB := bon BB B; clear B)
          | (go_at_call 23; refine (G00.out _ _ _ _ R1).mono ?_; rintro _ W1 ⟨rfl, B⟩; replace BB := bon BB B; clear B R1)
          | (go_at_call 17; refine (G1.out _).mono ?_; rintro _ W1 ⟨rfl, B⟩; replace BB := bon BB B; clear B)
          | (go_at_call 19; refine (G2.out _).mono ?_; rintro _ W1 ⟨rfl, B⟩; replace BB := bon BB B; clear B)
          | (go_at_call 21; refine (G3.out _).mono ?_; rintro _ W1 ⟨rfl, B⟩; replace BB := bon BB B; clear B)
          | (go_at_call 12; refine (G4.out _).mono ?_; rintro _ W1 ⟨rfl, B⟩; replace BB := bon BB B; clear B)
          | (go_at_call 14; with_reducible refine (G5.out _).mono ?_; rintro _ W1 ⟨rfl, B⟩; replace BB := bon BB B; clear B)
          | (go_at_call 14; with_reducible refine (G6.out _).mono ?_; rintro _ W1 ⟨rfl, B⟩; replace BB := bon BB B; clear B)
          | (go_at_call 10; with_reducible refine (D1.out _).mono ?_; rintro _ W1 ⟨rfl, B⟩; replace BB := bon BB B; clear B)
          | (go_at_call 10; with_reducible refine (D2.out _).mono ?_; rintro _ W1 ⟨rfl, B⟩; replace BB := bon BB B; clear B)
          | (go_at_call 10; with_reducible refine (D3.out _).mono ?_; rintro _ W1 ⟨rfl, B⟩; replace BB := bon BB B; clear B)
          | (go_at_call 10; with_reducible refine (D4.out _).mono ?_; rintro _ W1 ⟨rfl, B⟩; replace BB := bon BB B; clear B)
          | (go_at_call 10; with_reducible refine (D5.out _).mono ?_; rintro _ W1 ⟨rfl, B⟩; replace BB := bon BB B; clear B)
          | (go_at_call 10; with_reducible refine (D6.out _).mono ?_; rintro _ W1 ⟨rfl, B⟩; replace BB := bon BB B; clear B)
          | (go_at_call 10; with_reducible refine (D7.out _).mono ?_; rintro _ W1 ⟨rfl, B⟩; replace BB := bon BB B; clear B)
          | (go_at_call 16; refine (example_b _).mono ?_; rintro _ W1 ⟨rfl, B⟩; replace BB := bon BB B; clear B))
      all_goals go_ret
      all_goals exact ⟨rfl, BB⟩
  · obtain rfl : inn = false := by rw [hin]; simp; omega
    obtain rfl := hpa rfl
    obtain rfl := hpb rfl
    clear hin hpa hpb h6
    by_cases h0 : lane < 0
    · clear hr
      go_enter Try.func5, Try.ntmps5
      go_wp2_with (first
          | (go_at_call 24; refine (G0.out _).mono ?_; rintro _ W1 ⟨A1, n1, d1, rfl, own1, B⟩; have R1 := own1.rd; clear own1; replace BB := bon BB B; clear B)
          | (go_at_call 23; refine (G00.out _ _ _ _ R1).mono ?_; rintro _ W1 ⟨rfl, B⟩; replace BB := bon BB B; clear B R1)
          | (go_at_call 17; refine (G1.out _).mono ?_; rintro _ W1 ⟨rfl, B⟩; replace BB := bon BB B; clear B)
          | (go_at_call 19; refine (G2.out _).mono ?_; rintro _ W1 ⟨rfl, B⟩; replace BB := bon BB B; clear B)
          | (go_at_call 21; refine (G3.out _).mono ?_; rintro _ W1 ⟨rfl, B⟩; replace BB := bon BB B; clear B)
          | (go_at_call 12; refine (G4.out _).mono ?_; rintro _ W1 ⟨rfl, B⟩; replace BB := bon BB B; clear B)
          | (go_at_call 14; with_reducible refine (G5.out _).mono ?_; rintro _ W1 ⟨rfl, B⟩; replace BB := bon BB B; clear B)
          | (go_at_call 14; with_reducible refine (G6.out _).mono ?_; rintro _ W1 ⟨rfl, B⟩; replace BB := bon BB B; clear B)
          | (go_at_call 10; with_reducible refine (D1.out _).mono ?_; rintro _ W1 ⟨rfl, B⟩; replace BB := bon BB B; clear B)
          | (go_at_call 10; with_reducible refine (D2.out _).mono ?_; rintro _ W1 ⟨rfl, B⟩; replace BB := bon BB B; clear B)
          | (go_at_call 10; with_reducible refine (D3.out _).mono ?_; rintro _ W1 ⟨rfl, B⟩; replace BB := bon BB B; clear B)
          | (go_at_call 10; with_reducible refine (D4.out _).mono ?_; rintro _ W1 ⟨rfl, B⟩; replace BB := bon BB B; clear B)
          | (go_at_call 10; with_reducible refine (D5.out _).mono ?_; rintro _ W1 ⟨rfl, B⟩; replace BB := bon BB B; clear B)
          | (go_at_call 10; with_reducible refine (D6.out _).mono ?_; rintro _ W1 ⟨rfl, B⟩; replace BB := bon BB B; clear B)
          | (go_at_call 10; with_reducible refine (D7.out _).mono ?_; rintro _ W1 ⟨rfl, B⟩; replace BB := bon BB B; clear B)
          | (go_at_call 16; refine (example_b _).mono ?_; rintro _ W1 ⟨rfl, B⟩; replace BB := bon BB B; clear B))
      all_goals go_ret
      all_goals exact ⟨rfl, BB⟩
    · have h1 : 0 ≤ lane := by omega
      have h2 : 16 ≤ lane := by omega
      clear hr h0
      go_enter Try.func5, Try.ntmps5
      go_wp2_with (first
          | (go_at_call 24; refine (G0.out _).mono ?_; rintro _ W1 ⟨A1, n1, d1, rfl, own1, B⟩; have R1 := own1.rd; clear own1; replace BB := bon BB B; clear B)
          | (go_at_call 23; refine (G00.out _ _ _ _ R1).mono ?_; rintro _ W1 ⟨rfl, B⟩; replace BB := bon BB B; clear B R1)
          | (go_at_call 17; refine (G1.out _).mono ?_; rintro _ W1 ⟨rfl, B⟩; replace BB := bon BB B; clear B)
          | (go_at_call 19; refine (G2.out _).mono ?_; rintro _ W1 ⟨rfl, B⟩; replace BB := bon BB B; clear B)
          | (go_at_call 21; refine (G3.out _).mono ?_; rintro _ W1 ⟨rfl, B⟩; replace BB := bon BB B; clear B)
          | (go_at_call 12; refine (G4.out _).mono ?_; rintro _ W1 ⟨rfl, B⟩; replace BB := bon BB B; clear B)
          | (go_at_call 14; with_reducible refine (G5.out _).mono ?_; rintro _ W1 ⟨rfl, B⟩; replace BB := bon BB B; clear B)
          | (go_at_call 14; with_reducible refine (G6.out _).mono ?_; rintro _ W1 ⟨rfl, B⟩; replace BB := bon BB B; clear B)
          | (go_at_call 10; with_reducible refine (D1.out _).mono ?_; rintro _ W1 ⟨rfl, B⟩; replace BB := bon BB B; clear B)
          | (go_at_call 10; with_reducible refine (D2.out _).mono ?_; rintro _ W1 ⟨rfl, B⟩; replace BB := bon BB B; clear B)
          | (go_at_call 10; with_reducible refine (D3.out _).mono ?_; rintro _ W1 ⟨rfl, B⟩; replace BB := bon BB B; clear B)
          | (go_at_call 10; with_reducible refine (D4.out _).mono ?_; rintro _ W1 ⟨rfl, B⟩; replace BB := bon BB B; clear B)
          | (go_at_call 10; with_reducible refine (D5.out _).mono ?_; rintro _ W1 ⟨rfl, B⟩; replace BB := bon BB B; clear B)
          | (go_at_call 10; with_reducible refine (D6.out _).mono ?_; rintro _ W1 ⟨rfl, B⟩; replace BB := bon BB B; clear B)
          | (go_at_call 10; with_reducible refine (D7.out _).mono ?_; rintro _ W1 ⟨rfl, B⟩; replace BB := bon BB B; clear B)
          | (go_at_call 16; refine (example_b _).mono ?_; rintro _ W1 ⟨rfl, B⟩; replace BB := bon BB B; clear B))
      all_goals go_ret
      all_goals exact ⟨rfl, BB⟩

theorem sets_walk (a b : Nat) (lane : Int) (w : World) (ha : a < 65536) (hb : b < 65536) :
    Calls Try.prog 5 #[.int .u16 a, .int .u16 b, .int .i64 lane] w fun e w' => e = .returned (.bool true) ∧ Below w.heap.size w w' := by
  have hof : ofL (lns a) = a := of_lns ha
  have hln := lns_len a
  have inq : ∀ (f : Nat → Bool), hasB (msk f 16) lane = (decide (0 ≤ lane ∧ lane < 16) && f lane.toNat) := by
    intro f
    by_cases hr : 0 ≤ lane ∧ lane < 16
    · rw [decide_eq_true hr, Bool.true_and]
      obtain ⟨i, rfl⟩ : ∃ i : Nat, lane = i := ⟨lane.toNat, by omega⟩
      rw [hasB_msk (by omega), Int.toNat_natCast]
    · rw [hasB_out hr, decide_eq_false hr, Bool.false_and]
  have hq : ∀ m : Nat, hasB m lane = (decide (0 ≤ lane ∧ lane < 16) && m.testBit lane.toNat) := fun _ => rfl
  refine sets_case a b (andF a b) (orF a b) (andNotF a b) (withF a lane) (withoutF a lane) (withoutF (withF a lane) lane) lane (hasB a lane) (hasB b lane) (decide (0 ≤ lane ∧ lane < 16)) w rfl
    (fun h => by rw [hq, h]; rfl) (fun h => by rw [hq, h]; rfl) (fun _ => without_with a lane)
    (Lib.hid fun W => lanes_b a W ha)
    (Lib.hid fun A n c W R => by have h := of_b A n c (lns a) W R (by rw [← R.len]; omega); rw [hof] at h; exact h)
    (Lib.hid fun W => and_b a b W ha hb) (Lib.hid fun W => or_b a b W ha hb) (Lib.hid fun W => andNot_b a b W ha hb)
    (Lib.hid fun W => with_b a lane W ha) (Lib.hid fun W => without_b a lane W ha) (Lib.hid fun W => without_b (withF a lane) lane W (withF_lt a lane))
    (Lib.hid fun W => has_b a lane W ha) (Lib.hid fun W => has_b b lane W hb)
    (Lib.hid fun W => by have h := has_b (andF a b) lane W (andF_lt a b); rw [andF, inq, ← b3] at h; exact h)
    (Lib.hid fun W => by have h := has_b (orF a b) lane W (orF_lt a b); rw [orF, inq, ← b4] at h; exact h)
    (Lib.hid fun W => by have h := has_b (andNotF a b) lane W (andNotF_lt a b); rw [andNotF, inq, ← b5] at h; exact h)
    (Lib.hid fun W => by have h := has_b (withF a lane) lane W (withF_lt a lane); rw [withF, inq, b6] at h; exact h)
    (Lib.hid fun W => by have h := has_b (withoutF a lane) lane W (withoutF_lt a lane); rw [withoutF, inq, b7] at h; exact h)

end Go.Proofs.Ytegmagjlkflecaa
