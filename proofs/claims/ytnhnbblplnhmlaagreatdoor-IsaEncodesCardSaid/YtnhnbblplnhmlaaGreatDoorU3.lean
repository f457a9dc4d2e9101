/- Instructions and programs in memory; what an instruction must keep, of package isa. -/
import Derived.Test.YtnhnbblplnhmlaaGreatDoorU1
import Derived.Test.YtnhnbblplnhmlaaGreatDoorEBox
namespace Go.Proofs.YtnhnbblplnhmlaaGreatDoor
set_option linter.unusedSimpArgs false
open Go.RowKit Go.Sort Go.ChangeShapes Go.WideShapes
set_option linter.unusedVariables false

/-- An instruction's cells; a program's. -/
def inC (x : In) : List Value := [.int .i64 x.o, .int .i64 x.d, .int .i64 x.a, .int .i64 x.b, .int .i64 x.c, .int .i64 x.i]
def inA (x : In) : Array Value := #[.int .i64 x.o, .int .i64 x.d, .int .i64 x.a, .int .i64 x.b, .int .i64 x.c, .int .i64 x.i]
def prA (p : Pr) (A : Option Addr) (n c : Nat) : Array Value := #[.int .i64 p.st, .int .i64 p.rg, .int .i64 p.ip, .int .i64 p.ou, .int .i64 p.un, .int .i64 p.tx, .int .i64 p.bf, .slice A n c]

theorem inEnc : Enc inC 6 := ⟨fun _ => rfl, by decide, fun x v h => by simp [inC] at h; rcases h with rfl | rfl | rfl | rfl | rfl | rfl <;> rfl⟩
theorem rk_in : RowK Tryz.prog 24 6 := ⟨⟨_, Tryz.underlying24, rfl⟩, by kernel_rfl⟩
theorem rk_pr : RowK Tryz.prog 31 8 := ⟨⟨_, Tryz.underlying31, rfl⟩, by kernel_rfl⟩

theorem boxI (w : World) (x : In) (t : TypeId) : (w.alloc (.cells (inA x) t)).cell? ⟨w.heap.size, 0, none⟩ = some (.int .i64 x.o) ∧ (w.alloc (.cells (inA x) t)).cell? ⟨w.heap.size, 1, none⟩ = some (.int .i64 x.d) ∧ (w.alloc (.cells (inA x) t)).cell? ⟨w.heap.size, 2, none⟩ = some (.int .i64 x.a) ∧
    (w.alloc (.cells (inA x) t)).cell? ⟨w.heap.size, 3, none⟩ = some (.int .i64 x.b) ∧ (w.alloc (.cells (inA x) t)).cell? ⟨w.heap.size, 4, none⟩ = some (.int .i64 x.c) ∧ (w.alloc (.cells (inA x) t)).cell? ⟨w.heap.size, 5, none⟩ = some (.int .i64 x.i) ∧ Below w.heap.size w (w.alloc (.cells (inA x) t)) :=
  ⟨box_cell w _ t 0 _ rfl, box_cell w _ t 1 _ rfl, box_cell w _ t 2 _ rfl, box_cell w _ t 3 _ rfl, box_cell w _ t 4 _ rfl, box_cell w _ t 5 _ rfl, box_below _ _ _⟩

theorem boxP (w : World) (p : Pr) (A : Option Addr) (n c : Nat) (t : TypeId) : (w.alloc (.cells (prA p A n c) t)).cell? ⟨w.heap.size, 0, none⟩ = some (.int .i64 p.st) ∧ (w.alloc (.cells (prA p A n c) t)).cell? ⟨w.heap.size, 1, none⟩ = some (.int .i64 p.rg) ∧ (w.alloc (.cells (prA p A n c) t)).cell? ⟨w.heap.size, 2, none⟩ = some (.int .i64 p.ip) ∧
    (w.alloc (.cells (prA p A n c) t)).cell? ⟨w.heap.size, 3, none⟩ = some (.int .i64 p.ou) ∧ (w.alloc (.cells (prA p A n c) t)).cell? ⟨w.heap.size, 4, none⟩ = some (.int .i64 p.un) ∧ (w.alloc (.cells (prA p A n c) t)).cell? ⟨w.heap.size, 5, none⟩ = some (.int .i64 p.tx) ∧ (w.alloc (.cells (prA p A n c) t)).cell? ⟨w.heap.size, 6, none⟩ = some (.int .i64 p.bf) ∧ (w.alloc (.cells (prA p A n c) t)).cell? ⟨w.heap.size, 7, none⟩ = some (.slice A n c) ∧ Below w.heap.size w (w.alloc (.cells (prA p A n c) t)) :=
  ⟨box_cell w _ t 0 _ rfl, box_cell w _ t 1 _ rfl, box_cell w _ t 2 _ rfl, box_cell w _ t 3 _ rfl, box_cell w _ t 4 _ rfl, box_cell w _ t 5 _ rfl, box_cell w _ t 6 _ rfl, box_cell w _ t 7 _ rfl, box_below _ _ _⟩

theorem isWithin_q (n lo hi : Int) (w : World) : Calls Tryz.prog 80 #[.int .i64 n, .int .i64 lo, .int .i64 hi] w fun e w' => e = .returned (.bool (wth n lo hi)) ∧ w = w' := by
  go_enter Tryz.func80, Tryz.ntmps80
  go_wp2
  all_goals (go_ret; refine ⟨ret_bool2 ?_, rfl⟩; unfold wth; first | rfl | (simp_all; done) | (simp_all; omega))

set_option maxRecDepth 100000 in
set_option maxHeartbeats 4000000 in
theorem hasOnly_b (x : In) (w : World) : Calls Tryz.prog 85 #[.agg (inA x)] w fun e w' => e = .returned (.bool (only x)) ∧ Below w.heap.size w w' := by
  obtain ⟨c0, c1, c2, c3, c4, c5, BB⟩ := boxI w x 24
  have c := fun W => operands_q x.o W
  have HE := Lib.hid (rfl : only x = only x)
  rcases cl_ways x.o with h | h | h | h | h | h | h | h | h | h | h
  all_goals
    rw [h] at c
    have C := Lib.hid c
    have H := Lib.hid h
    clear c h
    simp only [flg, fD, fA, fB, fC, fI] at C
    go_enter Tryz.func85, Tryz.ntmps85
    go_wp2_with (go_at_call 71; (with_reducible refine (C.out _).mono ?_); rintro _ _ ⟨rfl, rfl⟩)
    all_goals
      go_ret
      refine ⟨ret_bool2 ?_, BB⟩
      unfold only
      rw [H.out]
      first | rfl | (simp_all [fD, fA, fB, fC, fI]; done)

end Go.Proofs.YtnhnbblplnhmlaaGreatDoor
