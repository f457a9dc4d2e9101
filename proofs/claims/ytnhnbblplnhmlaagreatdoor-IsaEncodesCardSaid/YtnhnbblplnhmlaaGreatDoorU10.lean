/- The chapter's example; the walk of IsaOpcodes; ranges of integers. -/
import Derived.Test.YtnhnbblplnhmlaaGreatDoorU9
namespace Go.Proofs.YtnhnbblplnhmlaaGreatDoor
set_option linter.unusedSimpArgs false
open Go.RowKit Go.Sort Go.ChangeShapes Go.WideShapes
set_option linter.unusedVariables false

def exP : Pr := ⟨1, 3, 0, 0, 0, 0, 0, [exI]⟩

set_option maxRecDepth 100000 in
set_option maxHeartbeats 2000000 in
theorem example_b (w : World) (LL : Lay6 w) : Calls Tryz.prog 9 #[] w fun e w' => e = .returned (.bool true) ∧ Below w.heap.size w w' := by
  have own : RdE inC 6 (w.alloc (.cells #[.int .i64 3, .int .i64 2, .int .i64 0, .int .i64 1, .int .i64 0, .int .i64 0] 24)) (w.alloc (.cells #[.int .i64 3, .int .i64 2, .int .i64 0, .int .i64 1, .int .i64 0, .int .i64 0] 24)).heap.size (some ⟨w.heap.size, 0, none⟩) 1 [exI] := (OwnE.made1 inEnc w 24 exI).rd inEnc
  have bx := box_below (w.alloc (.cells #[.int .i64 3, .int .i64 2, .int .i64 0, .int .i64 1, .int .i64 0, .int .i64 0] 24)) #[.int .i64 1, .int .i64 3, .int .i64 0, .int .i64 0, .int .i64 0, .int .i64 0, .int .i64 0, .slice (some ⟨w.heap.size, 0, none⟩) 1 1] 31
  have BX := bon (box_below w #[.int .i64 3, .int .i64 2, .int .i64 0, .int .i64 1, .int .i64 0, .int .i64 0] 24) bx
  replace own := own.on bx
  have cf : ∀ W, Lay6 W → RdE inC 6 W W.heap.size (some ⟨w.heap.size, 0, none⟩) 1 [exI] → Calls Tryz.prog 30 #[.agg #[.int .i64 1, .int .i64 3, .int .i64 0, .int .i64 0, .int .i64 0, .int .i64 0, .int .i64 0, .slice (some ⟨w.heap.size, 0, none⟩) 1 1]] W fun e w' => e = .returned (.string ⟨#[97, 100, 100, 32, 114, 50, 32, 114, 48, 32, 114, 49, 10]⟩) ∧ Below W.heap.size W w' := fun W L R => by
    have h := format_b exP (some ⟨w.heap.size, 0, none⟩) 1 1 W L R (fun x hx => by rw [List.mem_singleton.1 hx]; unfold In.wf exI; decide) (by decide)
    rw [show exP.cd = [exI] from rfl, exT] at h
    exact h
  have CF := Lib.hid cf
  have c1 : ∀ W, Calls Tryz.prog 7 #[.int .i64 10, .int .i64 7, .int .i64 0, .int .i64 0, .int .i64 0] W fun e w' => e = .returned (.int .i64 0) ∧ Below W.heap.size W w' := fun W => compute_b 10 7 0 0 0 W
  have c2 : ∀ W, Calls Tryz.prog 7 #[.int .i64 7, .int .i64 2147483647, .int .i64 1, .int .i64 0, .int .i64 0] W fun e w' => e = .returned (.int .i64 (-2147483648)) ∧ Below W.heap.size W w' := fun W => compute_b 7 2147483647 1 0 0 W
  have C1 := Lib.hid c1
  have C2 := Lib.hid c2
  have HL := Lib.hid LL
  have HO := Lib.hid own
  clear cf c1 c2 LL own bx
  go_enter Tryz.func9, Tryz.ntmps9
  go_wp2_with (first
    | (go_at_call 30; (with_reducible refine (CF.out _ (HL.out.on BX) HO.out).mono ?_); rintro _ W3 ⟨rfl, B3⟩; have BB3 := bon BX B3)
    | (go_at_call 7; (with_reducible refine (C1.out _).mono ?_); rintro _ W4 ⟨rfl, B4⟩; have BB4 := bon BB3 B4)
    | (go_at_call 7; (with_reducible refine (C2.out _).mono ?_); rintro _ W5 ⟨rfl, B5⟩; have BB5 := bon BB4 B5))
  go_ret
  exact ⟨rfl, BB5⟩

theorem tmod_rng {a b : Int} (h1 : -2147483648 ≤ a) (h2 : a ≤ 2147483647) : -2147483648 ≤ a.tmod b ∧ a.tmod b ≤ 2147483647 := by
  have h : (a.tmod b).natAbs ≤ a.natAbs := by rw [Int.natAbs_tmod]; exact Nat.mod_le _ _
  rcases Int.le_total 0 a with h0 | h0
  · have h3 : 0 ≤ a.tmod b := Int.tmod_nonneg _ h0
    omega
  · have h3 : a.tmod b ≤ 0 := by
      have := Int.tmod_nonneg b (show 0 ≤ -a by omega)
      rw [Int.neg_tmod] at this
      omega
    omega

theorem shr_rng {a : Int} {k : Nat} (h1 : -2147483648 ≤ a) (h2 : a ≤ 2147483647) : -2147483648 ≤ a / 2 ^ k ∧ a / 2 ^ k ≤ 2147483647 := by
  have hp := pow_pos2 k
  constructor
  · rw [Int.le_ediv_iff_mul_le (by omega)]
    have : -2147483648 * (2 : Int) ^ k ≤ -2147483648 * 1 := Int.mul_le_mul_of_nonpos_left (by omega) (by omega)
    omega
  · rcases Int.le_total 0 a with h0 | h0
    · have := Int.ediv_le_self (2 ^ k) h0
      omega
    · have : a / 2 ^ k ≤ 0 := by
        rw [← Int.neg_nonneg, ]
        have h := Int.ediv_le_ediv (show (0 : Int) < 2 ^ k by omega) h0
        rw [Int.zero_ediv] at h
        omega
      omega

theorem inv_rng (o a b : Int) (h1 : -2147483648 ≤ a) (h2 : a ≤ 2147483647) (h3 : -2147483648 ≤ b) (h4 : b ≤ 2147483647) : -2147483648 ≤ inv o a b ∧ inv o a b ≤ 2147483647 := by
  unfold inv
  split
  · exact wrapv_rng _
  split
  · exact wrapv_rng _
  split
  · exact wrapv_rng _
  split
  · unfold divi
    split
    · decide
    · exact wrapv_rng _
  split
  · unfold modi
    split
    · decide
    · exact tmod_rng h1 h2
  split
  · rw [and_32 h1 h2 h3 h4]; exact wrapv_rng _
  split
  · rw [or_32 h1 h2 h3 h4]; exact wrapv_rng _
  split
  · rw [xor_32 h1 h2 h3 h4]; exact wrapv_rng _
  split
  · exact wrapv_rng _
  · exact shr_rng h1 h2

end Go.Proofs.YtnhnbblplnhmlaaGreatDoor
