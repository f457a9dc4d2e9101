/- The walks of the laws MatrixProjections and MatrixPerspective. -/
import Derived.Test.YtlchecnencbamaaM6
namespace Go.Proofs.Ytlchecnencbamaa
open Go.RowKit Go.Sort

theorem argsP6 (w : World) (a0 a1 a2 a3 a4 a5 : Int) (t : TypeId) :
    Below w.heap.size w (w.alloc (.cells #[.int .i64 a0, .int .i64 a1, .int .i64 a2, .int .i64 a3, .int .i64 a4, .int .i64 a5] t)) ∧
    (w.alloc (.cells #[.int .i64 a0, .int .i64 a1, .int .i64 a2, .int .i64 a3, .int .i64 a4, .int .i64 a5] t)).cell? ⟨w.heap.size, 0, none⟩ = some (.int .i64 a0) ∧
    (w.alloc (.cells #[.int .i64 a0, .int .i64 a1, .int .i64 a2, .int .i64 a3, .int .i64 a4, .int .i64 a5] t)).cell? ⟨w.heap.size, 1, none⟩ = some (.int .i64 a1) ∧
    (w.alloc (.cells #[.int .i64 a0, .int .i64 a1, .int .i64 a2, .int .i64 a3, .int .i64 a4, .int .i64 a5] t)).cell? ⟨w.heap.size, 2, none⟩ = some (.int .i64 a2) ∧
    (w.alloc (.cells #[.int .i64 a0, .int .i64 a1, .int .i64 a2, .int .i64 a3, .int .i64 a4, .int .i64 a5] t)).cell? ⟨w.heap.size, 3, none⟩ = some (.int .i64 a3) ∧
    (w.alloc (.cells #[.int .i64 a0, .int .i64 a1, .int .i64 a2, .int .i64 a3, .int .i64 a4, .int .i64 a5] t)).cell? ⟨w.heap.size, 4, none⟩ = some (.int .i64 a4) ∧
    (w.alloc (.cells #[.int .i64 a0, .int .i64 a1, .int .i64 a2, .int .i64 a3, .int .i64 a4, .int .i64 a5] t)).cell? ⟨w.heap.size, 5, none⟩ = some (.int .i64 a5) := by
  have BB : Below w.heap.size w w := Below.refl _ _
  have hsz0 : w.heap.size = w.heap.size := by simp
  obtain ⟨B, BB⟩ := box_on BB #[.int .i64 a0, .int .i64 a1, .int .i64 a2, .int .i64 a3, .int .i64 a4, .int .i64 a5] t
  have p0_0 := box_cell w #[.int .i64 a0, .int .i64 a1, .int .i64 a2, .int .i64 a3, .int .i64 a4, .int .i64 a5] t 0 _ rfl
  have p0_1 := box_cell w #[.int .i64 a0, .int .i64 a1, .int .i64 a2, .int .i64 a3, .int .i64 a4, .int .i64 a5] t 1 _ rfl
  have p0_2 := box_cell w #[.int .i64 a0, .int .i64 a1, .int .i64 a2, .int .i64 a3, .int .i64 a4, .int .i64 a5] t 2 _ rfl
  have p0_3 := box_cell w #[.int .i64 a0, .int .i64 a1, .int .i64 a2, .int .i64 a3, .int .i64 a4, .int .i64 a5] t 3 _ rfl
  have p0_4 := box_cell w #[.int .i64 a0, .int .i64 a1, .int .i64 a2, .int .i64 a3, .int .i64 a4, .int .i64 a5] t 4 _ rfl
  have p0_5 := box_cell w #[.int .i64 a0, .int .i64 a1, .int .i64 a2, .int .i64 a3, .int .i64 a4, .int .i64 a5] t 5 _ rfl
  have f0_0 := box_frozen w #[.int .i64 a0, .int .i64 a1, .int .i64 a2, .int .i64 a3, .int .i64 a4, .int .i64 a5] t 0
  have f0_1 := box_frozen w #[.int .i64 a0, .int .i64 a1, .int .i64 a2, .int .i64 a3, .int .i64 a4, .int .i64 a5] t 1
  have f0_2 := box_frozen w #[.int .i64 a0, .int .i64 a1, .int .i64 a2, .int .i64 a3, .int .i64 a4, .int .i64 a5] t 2
  have f0_3 := box_frozen w #[.int .i64 a0, .int .i64 a1, .int .i64 a2, .int .i64 a3, .int .i64 a4, .int .i64 a5] t 3
  have f0_4 := box_frozen w #[.int .i64 a0, .int .i64 a1, .int .i64 a2, .int .i64 a3, .int .i64 a4, .int .i64 a5] t 4
  have f0_5 := box_frozen w #[.int .i64 a0, .int .i64 a1, .int .i64 a2, .int .i64 a3, .int .i64 a4, .int .i64 a5] t 5
  rw [hsz0] at p0_0 p0_1 p0_2 p0_3 p0_4 p0_5 f0_0 f0_1 f0_2 f0_3 f0_4 f0_5
  exact ⟨BB, p0_0, p0_1, p0_2, p0_3, p0_4, p0_5⟩

theorem argsP4 (w : World) (a0 a1 a2 a3 : Int) (x0 x1 x2 x3 : Int) (t u : TypeId) :
    Below w.heap.size w ((w.alloc (.cells #[.int .i64 a0, .int .i64 a1, .int .i64 a2, .int .i64 a3] t)).alloc (.cells #[.int .i64 x0, .int .i64 x1, .int .i64 x2, .int .i64 x3] u)) ∧
    ((w.alloc (.cells #[.int .i64 a0, .int .i64 a1, .int .i64 a2, .int .i64 a3] t)).alloc (.cells #[.int .i64 x0, .int .i64 x1, .int .i64 x2, .int .i64 x3] u)).cell? ⟨w.heap.size, 0, none⟩ = some (.int .i64 a0) ∧
    ((w.alloc (.cells #[.int .i64 a0, .int .i64 a1, .int .i64 a2, .int .i64 a3] t)).alloc (.cells #[.int .i64 x0, .int .i64 x1, .int .i64 x2, .int .i64 x3] u)).cell? ⟨w.heap.size, 1, none⟩ = some (.int .i64 a1) ∧
    ((w.alloc (.cells #[.int .i64 a0, .int .i64 a1, .int .i64 a2, .int .i64 a3] t)).alloc (.cells #[.int .i64 x0, .int .i64 x1, .int .i64 x2, .int .i64 x3] u)).cell? ⟨w.heap.size, 2, none⟩ = some (.int .i64 a2) ∧
    ((w.alloc (.cells #[.int .i64 a0, .int .i64 a1, .int .i64 a2, .int .i64 a3] t)).alloc (.cells #[.int .i64 x0, .int .i64 x1, .int .i64 x2, .int .i64 x3] u)).cell? ⟨w.heap.size, 3, none⟩ = some (.int .i64 a3) ∧
    ((w.alloc (.cells #[.int .i64 a0, .int .i64 a1, .int .i64 a2, .int .i64 a3] t)).alloc (.cells #[.int .i64 x0, .int .i64 x1, .int .i64 x2, .int .i64 x3] u)).cell? ⟨w.heap.size + 1, 0, none⟩ = some (.int .i64 x0) ∧
    ((w.alloc (.cells #[.int .i64 a0, .int .i64 a1, .int .i64 a2, .int .i64 a3] t)).alloc (.cells #[.int .i64 x0, .int .i64 x1, .int .i64 x2, .int .i64 x3] u)).cell? ⟨w.heap.size + 1, 1, none⟩ = some (.int .i64 x1) ∧
    ((w.alloc (.cells #[.int .i64 a0, .int .i64 a1, .int .i64 a2, .int .i64 a3] t)).alloc (.cells #[.int .i64 x0, .int .i64 x1, .int .i64 x2, .int .i64 x3] u)).cell? ⟨w.heap.size + 1, 2, none⟩ = some (.int .i64 x2) ∧
    ((w.alloc (.cells #[.int .i64 a0, .int .i64 a1, .int .i64 a2, .int .i64 a3] t)).alloc (.cells #[.int .i64 x0, .int .i64 x1, .int .i64 x2, .int .i64 x3] u)).cell? ⟨w.heap.size + 1, 3, none⟩ = some (.int .i64 x3) := by
  have BB : Below w.heap.size w w := Below.refl _ _
  have hsz0 : w.heap.size = w.heap.size := by simp
  obtain ⟨B, BB⟩ := box_on BB #[.int .i64 a0, .int .i64 a1, .int .i64 a2, .int .i64 a3] t
  have p0_0 := box_cell w #[.int .i64 a0, .int .i64 a1, .int .i64 a2, .int .i64 a3] t 0 _ rfl
  have p0_1 := box_cell w #[.int .i64 a0, .int .i64 a1, .int .i64 a2, .int .i64 a3] t 1 _ rfl
  have p0_2 := box_cell w #[.int .i64 a0, .int .i64 a1, .int .i64 a2, .int .i64 a3] t 2 _ rfl
  have p0_3 := box_cell w #[.int .i64 a0, .int .i64 a1, .int .i64 a2, .int .i64 a3] t 3 _ rfl
  have f0_0 := box_frozen w #[.int .i64 a0, .int .i64 a1, .int .i64 a2, .int .i64 a3] t 0
  have f0_1 := box_frozen w #[.int .i64 a0, .int .i64 a1, .int .i64 a2, .int .i64 a3] t 1
  have f0_2 := box_frozen w #[.int .i64 a0, .int .i64 a1, .int .i64 a2, .int .i64 a3] t 2
  have f0_3 := box_frozen w #[.int .i64 a0, .int .i64 a1, .int .i64 a2, .int .i64 a3] t 3
  rw [hsz0] at p0_0 p0_1 p0_2 p0_3 f0_0 f0_1 f0_2 f0_3
  have hsz1 : (w.alloc (.cells #[.int .i64 a0, .int .i64 a1, .int .i64 a2, .int .i64 a3] t)).heap.size = w.heap.size + 1 := by simp
  obtain ⟨B, BB⟩ := box_on BB #[.int .i64 x0, .int .i64 x1, .int .i64 x2, .int .i64 x3] u
  replace f0_0 := frozen_below B p0_0 f0_0
  replace f0_1 := frozen_below B p0_1 f0_1
  replace f0_2 := frozen_below B p0_2 f0_2
  replace f0_3 := frozen_below B p0_3 f0_3
  replace p0_0 := cell_below B p0_0
  replace p0_1 := cell_below B p0_1
  replace p0_2 := cell_below B p0_2
  replace p0_3 := cell_below B p0_3
  have p1_0 := box_cell (w.alloc (.cells #[.int .i64 a0, .int .i64 a1, .int .i64 a2, .int .i64 a3] t)) #[.int .i64 x0, .int .i64 x1, .int .i64 x2, .int .i64 x3] u 0 _ rfl
  have p1_1 := box_cell (w.alloc (.cells #[.int .i64 a0, .int .i64 a1, .int .i64 a2, .int .i64 a3] t)) #[.int .i64 x0, .int .i64 x1, .int .i64 x2, .int .i64 x3] u 1 _ rfl
  have p1_2 := box_cell (w.alloc (.cells #[.int .i64 a0, .int .i64 a1, .int .i64 a2, .int .i64 a3] t)) #[.int .i64 x0, .int .i64 x1, .int .i64 x2, .int .i64 x3] u 2 _ rfl
  have p1_3 := box_cell (w.alloc (.cells #[.int .i64 a0, .int .i64 a1, .int .i64 a2, .int .i64 a3] t)) #[.int .i64 x0, .int .i64 x1, .int .i64 x2, .int .i64 x3] u 3 _ rfl
  have f1_0 := box_frozen (w.alloc (.cells #[.int .i64 a0, .int .i64 a1, .int .i64 a2, .int .i64 a3] t)) #[.int .i64 x0, .int .i64 x1, .int .i64 x2, .int .i64 x3] u 0
  have f1_1 := box_frozen (w.alloc (.cells #[.int .i64 a0, .int .i64 a1, .int .i64 a2, .int .i64 a3] t)) #[.int .i64 x0, .int .i64 x1, .int .i64 x2, .int .i64 x3] u 1
  have f1_2 := box_frozen (w.alloc (.cells #[.int .i64 a0, .int .i64 a1, .int .i64 a2, .int .i64 a3] t)) #[.int .i64 x0, .int .i64 x1, .int .i64 x2, .int .i64 x3] u 2
  have f1_3 := box_frozen (w.alloc (.cells #[.int .i64 a0, .int .i64 a1, .int .i64 a2, .int .i64 a3] t)) #[.int .i64 x0, .int .i64 x1, .int .i64 x2, .int .i64 x3] u 3
  rw [hsz1] at p1_0 p1_1 p1_2 p1_3 f1_0 f1_1 f1_2 f1_3
  exact ⟨BB, p0_0, p0_1, p0_2, p0_3, p1_0, p1_1, p1_2, p1_3⟩

/-- What a call that returns a matrix and a number returns, in every world. -/
def Pair (f : Nat) (args : Array Value) (m : Nat → Int) (e : Int) : Prop := ∀ w, Calls Try.prog f args w fun r w' => r = .returned (.tuple #[.agg (mats m), .int .i64 e]) ∧ Below w.heap.size w w'

set_option maxRecDepth 100000 in
set_option maxHeartbeats 8000000 in
theorem projections_pair (x0 x1 x2 x3 x4 x5 : Int) (m n : Nat → Int) (e f : Int) (w : World)
    (h1 : Pair 19 #[.int .i64 x0, .int .i64 x1, .int .i64 x2, .int .i64 x3, .int .i64 x4, .int .i64 x5] m e)
    (h2 : Pair 20 #[.int .i64 x0, .int .i64 x1, .int .i64 x2, .int .i64 x3, .int .i64 x4, .int .i64 x5] m e)
    (h3 : Pair 21 #[.int .i64 x0, .int .i64 x1, .int .i64 x2, .int .i64 x3] n f)
    (h4 : Pair 22 #[.int .i64 x0, .int .i64 x1, .int .i64 x2, .int .i64 x3] n f) :
    Calls Try.prog 4 #[.agg #[.int .i64 x0, .int .i64 x1, .int .i64 x2, .int .i64 x3, .int .i64 x4, .int .i64 x5]] w fun e w' => e = .returned (.bool true) ∧ Below w.heap.size w w' := by
  obtain ⟨BB, a0, a1, a2, a3, a4, a5⟩ := argsP6 w x0 x1 x2 x3 x4 x5 32
  have EQ := meq
  have GU := mguard
  have H1 := Lib.hid h1
  have H2 := Lib.hid h2
  have H3 := Lib.hid h3
  have H4 := Lib.hid h4
  clear h1 h2 h3 h4
  go_enter Try.func4, Try.ntmps4
  go_wp2_with (first
    | (go_at_call 19; refine (H1.out _).mono ?_; rintro _ W1 ⟨rfl, B⟩; (replace BB := bon BB B; replace a0 := cell_below B a0; replace a1 := cell_below B a1; replace a2 := cell_below B a2; replace a3 := cell_below B a3; replace a4 := cell_below B a4; replace a5 := cell_below B a5); clear B)
    | (go_at_call 20; refine (H2.out _).mono ?_; rintro _ W2 ⟨rfl, B⟩; (replace BB := bon BB B; replace a0 := cell_below B a0; replace a1 := cell_below B a1; replace a2 := cell_below B a2; replace a3 := cell_below B a3; replace a4 := cell_below B a4; replace a5 := cell_below B a5; replace M5 := mat_below B M5); clear B)
    | (go_at_call 21; clear M5 M6 a4 a5; refine (H3.out _).mono ?_; rintro _ W3 ⟨rfl, B⟩; (replace BB := bon BB B; replace a0 := cell_below B a0; replace a1 := cell_below B a1; replace a2 := cell_below B a2; replace a3 := cell_below B a3); clear B)
    | (go_at_call 22; clear a0 a1 a2 a3; refine (H4.out _).mono ?_; rintro _ W4 ⟨rfl, B⟩; (replace BB := bon BB B; replace M7 := mat_below B M7); clear B)
    | (go_at_call 18; clear M7 M8; refine (example_b _).mono ?_; rintro _ W9 ⟨rfl, B⟩; (replace BB := bon BB B); clear B)
    | (refine wpList_mfill (W := W1) rfl _ _ _ rfl m matT rfl rfl ?_; go_simp; have M5 := mat_box W1 m 23; have B := box_below W1 ((mats m)) 23; replace BB := bon BB B; replace a0 := cell_below B a0; replace a1 := cell_below B a1; replace a2 := cell_below B a2; replace a3 := cell_below B a3; replace a4 := cell_below B a4; replace a5 := cell_below B a5; clear B; generalize W1.heap.size = s1 at *)
    | (refine wpList_mfill (W := W2) rfl _ _ _ rfl m matT rfl rfl ?_; go_simp; have M6 := mat_box W2 m 23; have B := box_below W2 ((mats m)) 23; replace BB := bon BB B; replace a0 := cell_below B a0; replace a1 := cell_below B a1; replace a2 := cell_below B a2; replace a3 := cell_below B a3; replace M5 := mat_below B M5; clear B; generalize W2.heap.size = s2 at *)
    | (refine wpList_mfill (W := W3) rfl _ _ _ rfl n matT rfl rfl ?_; go_simp; have M7 := mat_box W3 n 23; have B := box_below W3 ((mats n)) 23; replace BB := bon BB B; replace a0 := cell_below B a0; replace a1 := cell_below B a1; replace a2 := cell_below B a2; replace a3 := cell_below B a3; clear B; generalize W3.heap.size = s3 at *)
    | (refine wpList_mfill (W := W4) rfl _ _ _ rfl n matT rfl rfl ?_; go_simp; have M8 := mat_box W4 n 23; have B := box_below W4 ((mats n)) 23; replace BB := bon BB B; replace M7 := mat_below B M7; clear B; generalize W4.heap.size = s4 at *)
    | (refine wpList_mload rfl _ _ rfl matT M5 rfl ?_; go_simp) | (refine wpList_mload rfl _ _ rfl matT M6 rfl ?_; go_simp) | (refine wpList_mload rfl _ _ rfl matT M7 rfl ?_; go_simp) | (refine wpList_mload rfl _ _ rfl matT M8 rfl ?_; go_simp))
  go_ret
  exact ⟨rfl, BB⟩

theorem projections_walk (x0 x1 x2 x3 x4 x5 : Int) (w : World) :
    Calls Try.prog 4 #[.agg #[.int .i64 x0, .int .i64 x1, .int .i64 x2, .int .i64 x3, .int .i64 x4, .int .i64 x5]] w fun e w' => e = .returned (.bool true) ∧ Below w.heap.size w w' := by
  obtain ⟨m, e, h1, h2⟩ : ∃ m e, Pair 19 #[.int .i64 x0, .int .i64 x1, .int .i64 x2, .int .i64 x3, .int .i64 x4, .int .i64 x5] m e ∧ Pair 20 #[.int .i64 x0, .int .i64 x1, .int .i64 x2, .int .i64 x3, .int .i64 x4, .int .i64 x5] m e := by
    by_cases h : iv x0 x1 ∧ iv x2 x3 ∧ iv x4 x5
    · exact ⟨orthm x0 x1 x2 x3 x4 x5, 0, fun w => ortho_yes x0 x1 x2 x3 x4 x5 w h, fun w => rortho_yes x0 x1 x2 x3 x4 x5 w h⟩
    · exact ⟨zm, 2, fun w => ortho_no x0 x1 x2 x3 x4 x5 w h, fun w => rortho_no x0 x1 x2 x3 x4 x5 w h⟩
  obtain ⟨n, f, h3, h4⟩ : ∃ n f, Pair 21 #[.int .i64 x0, .int .i64 x1, .int .i64 x2, .int .i64 x3] n f ∧ Pair 22 #[.int .i64 x0, .int .i64 x1, .int .i64 x2, .int .i64 x3] n f := by
    by_cases h : good x0 x1 x2 x3
    · exact ⟨perm x0 x1 x2 x3, 0, fun w => persp_yes x0 x1 x2 x3 w h, fun w => rpersp_yes x0 x1 x2 x3 w h⟩
    · exact ⟨zm, 2, fun w => persp_no x0 x1 x2 x3 w h, fun w => rpersp_no x0 x1 x2 x3 w h⟩
  exact projections_pair x0 x1 x2 x3 x4 x5 m n e f w h1 h2 h3 h4

theorem psat_zero : sat 0 = 0 := rfl
theorem psat_one : sat 65536 = 65536 := rfl
theorem perm_0 (fo ra ne fa x0 x1 x2 x3 : Int) : appv (perm fo ra ne fa) 0 x0 x1 x2 x3 = mulv (divv fo ra) x0 := by
  show dotv (divv fo ra) 0 0 0 x0 x1 x2 x3 = _
  unfold dotv mulv; rw [psat_zero, show sat (divv fo ra) * sat x0 + 0 * sat x1 + 0 * sat x2 + 0 * sat x3 = sat (divv fo ra) * sat x0 by omega]
theorem perm_1 (fo ra ne fa x0 x1 x2 x3 : Int) : appv (perm fo ra ne fa) 1 x0 x1 x2 x3 = mulv fo x1 := by
  show dotv 0 fo 0 0 x0 x1 x2 x3 = _
  unfold dotv mulv; rw [psat_zero, show 0 * sat x0 + sat fo * sat x1 + 0 * sat x2 + 0 * sat x3 = sat fo * sat x1 by omega]
/-- The third coordinate hangs on the third and the fourth alone. -/
def pz (fo ra ne fa x2 x3 : Int) : Int := appv (perm fo ra ne fa) 2 0 0 x2 x3
theorem perm_2 (fo ra ne fa x0 x1 x2 x3 : Int) : appv (perm fo ra ne fa) 2 x0 x1 x2 x3 = pz fo ra ne fa x2 x3 := by
  show dotv 0 0 (divv fa (subv fa ne)) (-(divv (mulv fa ne) (subv fa ne))) x0 x1 x2 x3 = dotv 0 0 (divv fa (subv fa ne)) (-(divv (mulv fa ne) (subv fa ne))) 0 0 x2 x3
  unfold dotv; rw [psat_zero, Int.zero_mul, Int.zero_mul, Int.zero_mul]
theorem perm_3 (fo ra ne fa x0 x1 x2 x3 : Int) : appv (perm fo ra ne fa) 3 x0 x1 x2 x3 = sat x2 := by
  show dotv 0 0 65536 0 x0 x1 x2 x3 = _
  have b := sat_bd x2
  unfold dotv; rw [psat_zero, psat_one, show 0 * sat x0 + 0 * sat x1 + 65536 * sat x2 + 0 * sat x3 = sat x2 * 65536 by omega, rda_in _ _ (by omega) (by omega) (by omega) (by omega), rdv_mul_any _ _ (by omega), sat_sat]

set_option maxRecDepth 100000 in
set_option maxHeartbeats 8000000 in
theorem perspective_no (f0 f1 f2 f3 x0 x1 x2 x3 : Int) (w : World) (h : ¬ good f0 f1 f2 f3) :
    Calls Try.prog 9 #[.agg #[.int .i64 f0, .int .i64 f1, .int .i64 f2, .int .i64 f3], .agg #[.int .i64 x0, .int .i64 x1, .int .i64 x2, .int .i64 x3]] w fun e w' => e = .returned (.bool true) ∧ Below w.heap.size w w' := by
  obtain ⟨BB, a0, a1, a2, a3, c0, c1, c2, c3⟩ := argsP4 w f0 f1 f2 f3 x0 x1 x2 x3 49 25
  have EZ : ∀ w, (Op.equalIn 10000 23 (.agg (mats zm)) (.agg #[.int .i64 ((fun _ => 0) 0), .int .i64 ((fun _ => 0) 1), .int .i64 ((fun _ => 0) 2), .int .i64 ((fun _ => 0) 3), .int .i64 ((fun _ => 0) 4), .int .i64 ((fun _ => 0) 5), .int .i64 ((fun _ => 0) 6), .int .i64 ((fun _ => 0) 7), .int .i64 ((fun _ => 0) 8), .int .i64 ((fun _ => 0) 9), .int .i64 ((fun _ => 0) 10), .int .i64 ((fun _ => 0) 11), .int .i64 ((fun _ => 0) 12), .int .i64 ((fun _ => 0) 13), .int .i64 ((fun _ => 0) 14), .int .i64 ((fun _ => 0) 15)])).run Try.prog w = .ok true w := meq zm
  have GU := mguard
  have H := Lib.hid h
  clear h
  go_enter Try.func9, Try.ntmps9
  go_wp2_with (first
    | (go_at_call 21; refine (persp_no _ _ _ _ _ H.out).mono ?_; rintro _ W1 ⟨rfl, B⟩; (replace BB := bon BB B); clear B)
    | (go_at_call 18; clear M5; refine (example_b _).mono ?_; rintro _ W9 ⟨rfl, B⟩; (replace BB := bon BB B); clear B)
    | (refine wpList_mfill (W := W1) rfl _ _ _ rfl zm matT rfl rfl ?_; go_simp; have M5 := mat_box W1 zm 23; have B := box_below W1 ((mats zm)) 23; replace BB := bon BB B; clear B a0 a1 a2 a3 c0 c1 c2 c3; generalize W1.heap.size = s1 at *)
    | (refine wpList_mload rfl _ _ rfl matT M5 rfl ?_; go_simp))
  go_ret
  exact ⟨rfl, BB⟩

end Go.Proofs.Ytlchecnencbamaa
