/- The classes of opcodes, and which fields they use, of package isa. -/
import Derived.Test.YtnhnbblplnhmlaaGreatDoorUBits
import Derived.Test.YtnhnbblplnhmlaaGreatDoorBelow
import Derived.Test.YtnhnbblplnhmlaaGreatDoorChecked
import Derived.Deep.QuietTactic
import Derived.BigQuiet
import Derived.Outline
import Derived.IntWalk
import Derived.WalkSpells
namespace Go.Proofs.YtnhnbblplnhmlaaGreatDoor
set_option linter.unusedSimpArgs false
open Go.RowKit Go.Sort
set_option linter.unusedVariables false

theorem ret_i64' {a b : Int} (h : a = b) : Ending.returned (.int .i64 a) = .returned (.int .i64 b) := by rw [h]
theorem ret_bool2 {a b : Bool} (h : a = b) : Ending.returned (.bool a) = .returned (.bool b) := by rw [h]

set_option maxRecDepth 100000 in
theorem classOf_q (o : Int) (w : World) : Calls Tryz.prog 17 #[.int .i64 o] w fun e w' => e = .returned (.int .i64 (cl o)) ∧ w = w' := by
  go_enter Tryz.func17, Tryz.ntmps17
  go_wp2
  all_goals (go_ret; refine ⟨ret_i64' ?_, rfl⟩; unfold cl; grind (splits := 40))

theorem valid_q (o : Int) (w : World) : Calls Tryz.prog 84 #[.int .i64 o] w fun e w' => e = .returned (.bool (okO o)) ∧ w = w' := by
  go_enter Tryz.func84, Tryz.ntmps84
  go_wp2
  all_goals (go_ret; refine ⟨ret_bool2 ?_, rfl⟩; unfold okO; first | (simp_all; done) | (simp_all; omega))

def fCtl (o : Int) : Bool := decide (43 ≤ o) && decide (o ≤ 52)
def fPure (o : Int) : Bool := decide (1 ≤ o) && decide (o ≤ 36)

theorem rvalid22_q (o : Int) (w : World) : Calls Tryz.prog 75 #[.int .i64 o] w fun e w' => e = .returned (.bool (okO o)) ∧ w = w' := by
  go_enter Tryz.func75, Tryz.ntmps75
  go_wp2
  all_goals (go_ret; refine ⟨ret_bool2 ?_, rfl⟩; unfold okO; first | (simp_all; done) | (simp_all; omega))

/-- The five words on an opcode's fields. -/
def flg (k : Int) : Value := .tuple #[.bool (fD k), .bool (fA k), .bool (fB k), .bool (fC k), .bool (fI k)]

set_option maxRecDepth 100000 in
theorem operands_q (o : Int) (w : World) : Calls Tryz.prog 71 #[.int .i64 o] w fun e w' => e = .returned (flg (cl o)) ∧ w = w' := by
  have C := Lib.hid (fun W => classOf_q o W)
  rcases cl_ways o with h | h | h | h | h | h | h | h | h | h | h
  all_goals
    rw [h] at C ⊢
    go_enter Tryz.func71, Tryz.ntmps71
    go_wp2_with (go_at_call 17; (with_reducible refine (C.out _).mono ?_); rintro _ _ ⟨rfl, rfl⟩)
    exact bodyPost_ret (v := .tuple #[.bool _, .bool _, .bool _, .bool _, .bool _]) (by simp [results, Tryz.results71, go_sem]; exact ⟨rfl, rfl, rfl, rfl, rfl⟩) rfl ⟨rfl, rfl⟩

theorem flg_of {o : Int} {d a b c i : Bool} (h : d = fD (cl o) ∧ a = fA (cl o) ∧ b = fB (cl o) ∧ c = fC (cl o) ∧ i = fI (cl o)) : Ending.returned (.tuple #[.bool d, .bool a, .bool b, .bool c, .bool i]) = .returned (flg (cl o)) := by
  obtain ⟨rfl, rfl, rfl, rfl, rfl⟩ := h
  rfl

theorem o_all {o : Int} (h1 : 1 ≤ o) (h2 : o ≤ 52) : o = 1 ∨ o = 2 ∨ o = 3 ∨ o = 4 ∨ o = 5 ∨ o = 6 ∨ o = 7 ∨ o = 8 ∨ o = 9 ∨ o = 10 ∨ o = 11 ∨ o = 12 ∨ o = 13 ∨ o = 14 ∨ o = 15 ∨ o = 16 ∨ o = 17 ∨ o = 18 ∨ o = 19 ∨ o = 20 ∨ o = 21 ∨ o = 22 ∨ o = 23 ∨ o = 24 ∨ o = 25 ∨ o = 26 ∨ o = 27 ∨ o = 28 ∨ o = 29 ∨ o = 30 ∨ o = 31 ∨ o = 32 ∨ o = 33 ∨ o = 34 ∨ o = 35 ∨ o = 36 ∨ o = 37 ∨ o = 38 ∨ o = 39 ∨ o = 40 ∨ o = 41 ∨ o = 42 ∨ o = 43 ∨ o = 44 ∨ o = 45 ∨ o = 46 ∨ o = 47 ∨ o = 48 ∨ o = 49 ∨ o = 50 ∨ o = 51 ∨ o = 52 := by omega

set_option maxRecDepth 100000 in
set_option maxHeartbeats 2000000 in
theorem roperands_q (o : Int) (w : World) : Calls Tryz.prog 34 #[.int .i64 o] w fun e w' => e = .returned (flg (cl o)) ∧ w = w' := by
  by_cases h1 : o < 1
  · rw [cl_low h1]
    have N := Lib.hid (fun (k : Int) (q : 1 ≤ k) => (show (o == k) = false by simp; omega))
    go_enter Tryz.func34, Tryz.ntmps34
    go_wp2
    all_goals first
      | (exfalso; simp_all; done) | (exfalso; simp_all; omega)
      | exact bodyPost_ret (v := .tuple #[.bool _, .bool _, .bool _, .bool _, .bool _]) (by simp [results, Tryz.results34, go_sem]; exact ⟨rfl, rfl, rfl, rfl, rfl⟩) rfl ⟨rfl, rfl⟩
  by_cases h2 : 52 < o
  · rw [cl_high h2]
    go_enter Tryz.func34, Tryz.ntmps34
    go_wp2
    all_goals first
      | (exfalso; simp_all; done) | (exfalso; simp_all; omega)
      | exact bodyPost_ret (v := .tuple #[.bool _, .bool _, .bool _, .bool _, .bool _]) (by simp [results, Tryz.results34, go_sem]; exact ⟨rfl, rfl, rfl, rfl, rfl⟩) rfl ⟨rfl, rfl⟩
  rcases o_all (show 1 ≤ o by omega) (show o ≤ 52 by omega) with rfl | rfl | rfl | rfl | rfl | rfl | rfl | rfl | rfl | rfl | rfl | rfl | rfl | rfl | rfl | rfl | rfl | rfl | rfl | rfl | rfl | rfl | rfl | rfl | rfl | rfl | rfl | rfl | rfl | rfl | rfl | rfl | rfl | rfl | rfl | rfl | rfl | rfl | rfl | rfl | rfl | rfl | rfl | rfl | rfl | rfl | rfl | rfl | rfl | rfl | rfl | rfl
  all_goals
    go_enter Tryz.func34, Tryz.ntmps34
    go_wp2
    exact bodyPost_ret (v := .tuple #[.bool _, .bool _, .bool _, .bool _, .bool _]) (by simp [results, Tryz.results34, go_sem]; exact ⟨rfl, rfl, rfl, rfl, rfl⟩) rfl ⟨flg_of (by decide), rfl⟩

end Go.Proofs.YtnhnbblplnhmlaaGreatDoor
