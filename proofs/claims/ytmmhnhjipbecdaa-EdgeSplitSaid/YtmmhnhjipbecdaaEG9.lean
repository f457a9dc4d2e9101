/- The walk of EdgeWeightsSum. -/
import Derived.Test.YtmmhnhjipbecdaaEG8
namespace Go.Proofs.Ytmmhnhjipbecdaa
set_option linter.unusedSimpArgs false
open Go.RowKit Go.Sort Go.ChangeShapes Go.WideShapes
set_option linter.unusedVariables false

theorem zero_a3 : ZeroIs Try.prog 35 #[.int .i64 0, .int .i64 0, .int .i64 0] := zeroIs_of (by kernel_rfl)

set_option maxRecDepth 100000 in
set_option maxHeartbeats 4000000 in
theorem sum_no (a b c : SV) (p : Int) (f : Bool) (px py qx qy : Int) (hv : trv a b c = false) (w : World) : Calls Try.prog 6 #[.agg #[.int .i64 a.x, .int .i64 a.y, .int .i64 a.z, .int .i64 a.q, .slice a.A a.n a.c, .int .i64 b.x, .int .i64 b.y, .int .i64 b.z, .int .i64 b.q, .slice b.A b.n b.c, .int .i64 c.x, .int .i64 c.y, .int .i64 c.z, .int .i64 c.q, .slice c.A c.n c.c, .int .i64 p, .bool f], .agg #[.int .i64 px, .int .i64 py], .agg #[.int .i64 qx, .int .i64 qy]] w fun e w' => e = .returned (.bool true) ∧ Below w.heap.size w w' := by
  have BB := box_below w #[.int .i64 a.x, .int .i64 a.y, .int .i64 a.z, .int .i64 a.q, .slice a.A a.n a.c, .int .i64 b.x, .int .i64 b.y, .int .i64 b.z, .int .i64 b.q, .slice b.A b.n b.c, .int .i64 c.x, .int .i64 c.y, .int .i64 c.z, .int .i64 c.q, .slice c.A c.n c.c, .int .i64 p, .bool f] 34
  have X0 := EBox.made w #[.int .i64 a.x, .int .i64 a.y, .int .i64 a.z, .int .i64 a.q, .slice a.A a.n a.c, .int .i64 b.x, .int .i64 b.y, .int .i64 b.z, .int .i64 b.q, .slice b.A b.n b.c, .int .i64 c.x, .int .i64 c.y, .int .i64 c.z, .int .i64 c.q, .slice c.A c.n c.c, .int .i64 p, .bool f] 34
  have hsz1 : (w.alloc (.cells #[.int .i64 a.x, .int .i64 a.y, .int .i64 a.z, .int .i64 a.q, .slice a.A a.n a.c, .int .i64 b.x, .int .i64 b.y, .int .i64 b.z, .int .i64 b.q, .slice b.A b.n b.c, .int .i64 c.x, .int .i64 c.y, .int .i64 c.z, .int .i64 c.q, .slice c.A c.n c.c, .int .i64 p, .bool f] 34)).heap.size = w.heap.size + 1 := by simp
  have X1 := EBox.made (w.alloc (.cells #[.int .i64 a.x, .int .i64 a.y, .int .i64 a.z, .int .i64 a.q, .slice a.A a.n a.c, .int .i64 b.x, .int .i64 b.y, .int .i64 b.z, .int .i64 b.q, .slice b.A b.n b.c, .int .i64 c.x, .int .i64 c.y, .int .i64 c.z, .int .i64 c.q, .slice c.A c.n c.c, .int .i64 p, .bool f] 34)) #[.int .i64 px, .int .i64 py] 22
  rw [hsz1] at X1
  replace X0 := X0.on (Nat.succ_pos _) (box_below (w.alloc (.cells #[.int .i64 a.x, .int .i64 a.y, .int .i64 a.z, .int .i64 a.q, .slice a.A a.n a.c, .int .i64 b.x, .int .i64 b.y, .int .i64 b.z, .int .i64 b.q, .slice b.A b.n b.c, .int .i64 c.x, .int .i64 c.y, .int .i64 c.z, .int .i64 c.q, .slice c.A c.n c.c, .int .i64 p, .bool f] 34)) #[.int .i64 px, .int .i64 py] 22)
  replace BB := bon BB (box_below (w.alloc (.cells #[.int .i64 a.x, .int .i64 a.y, .int .i64 a.z, .int .i64 a.q, .slice a.A a.n a.c, .int .i64 b.x, .int .i64 b.y, .int .i64 b.z, .int .i64 b.q, .slice b.A b.n b.c, .int .i64 c.x, .int .i64 c.y, .int .i64 c.z, .int .i64 c.q, .slice c.A c.n c.c, .int .i64 p, .bool f] 34)) #[.int .i64 px, .int .i64 py] 22)
  clear hsz1
  have hsz2 : ((w.alloc (.cells #[.int .i64 a.x, .int .i64 a.y, .int .i64 a.z, .int .i64 a.q, .slice a.A a.n a.c, .int .i64 b.x, .int .i64 b.y, .int .i64 b.z, .int .i64 b.q, .slice b.A b.n b.c, .int .i64 c.x, .int .i64 c.y, .int .i64 c.z, .int .i64 c.q, .slice c.A c.n c.c, .int .i64 p, .bool f] 34)).alloc (.cells #[.int .i64 px, .int .i64 py] 22)).heap.size = w.heap.size + 2 := by simp
  have X2 := EBox.made ((w.alloc (.cells #[.int .i64 a.x, .int .i64 a.y, .int .i64 a.z, .int .i64 a.q, .slice a.A a.n a.c, .int .i64 b.x, .int .i64 b.y, .int .i64 b.z, .int .i64 b.q, .slice b.A b.n b.c, .int .i64 c.x, .int .i64 c.y, .int .i64 c.z, .int .i64 c.q, .slice c.A c.n c.c, .int .i64 p, .bool f] 34)).alloc (.cells #[.int .i64 px, .int .i64 py] 22)) #[.int .i64 qx, .int .i64 qy] 22
  rw [hsz2] at X2
  replace X0 := X0.on (Nat.succ_pos _) (box_below ((w.alloc (.cells #[.int .i64 a.x, .int .i64 a.y, .int .i64 a.z, .int .i64 a.q, .slice a.A a.n a.c, .int .i64 b.x, .int .i64 b.y, .int .i64 b.z, .int .i64 b.q, .slice b.A b.n b.c, .int .i64 c.x, .int .i64 c.y, .int .i64 c.z, .int .i64 c.q, .slice c.A c.n c.c, .int .i64 p, .bool f] 34)).alloc (.cells #[.int .i64 px, .int .i64 py] 22)) #[.int .i64 qx, .int .i64 qy] 22)
  replace X1 := X1.on (Nat.succ_pos _) (box_below ((w.alloc (.cells #[.int .i64 a.x, .int .i64 a.y, .int .i64 a.z, .int .i64 a.q, .slice a.A a.n a.c, .int .i64 b.x, .int .i64 b.y, .int .i64 b.z, .int .i64 b.q, .slice b.A b.n b.c, .int .i64 c.x, .int .i64 c.y, .int .i64 c.z, .int .i64 c.q, .slice c.A c.n c.c, .int .i64 p, .bool f] 34)).alloc (.cells #[.int .i64 px, .int .i64 py] 22)) #[.int .i64 qx, .int .i64 qy] 22)
  replace BB := bon BB (box_below ((w.alloc (.cells #[.int .i64 a.x, .int .i64 a.y, .int .i64 a.z, .int .i64 a.q, .slice a.A a.n a.c, .int .i64 b.x, .int .i64 b.y, .int .i64 b.z, .int .i64 b.q, .slice b.A b.n b.c, .int .i64 c.x, .int .i64 c.y, .int .i64 c.z, .int .i64 c.q, .slice c.A c.n c.c, .int .i64 p, .bool f] 34)).alloc (.cells #[.int .i64 px, .int .i64 py] 22)) #[.int .i64 qx, .int .i64 qy] 22)
  clear hsz2
  have v0x := X0.cell (i := 0) rfl
  have v0y := X0.cell (i := 1) rfl
  have v1x := X0.cell (i := 5) rfl
  have v1y := X0.cell (i := 6) rfl
  have v2x := X0.cell (i := 10) rfl
  have v2y := X0.cell (i := 11) rfl
  have Etr := range_cut X0.1 0 17
  simp only [List.drop_succ_cons, List.drop_zero, List.take_succ_cons, List.take_zero, Nat.zero_add] at Etr
  have c0 := X1.cell (i := 0) rfl
  have c1 := X1.cell (i := 1) rfl
  have d0 := X2.cell (i := 0) rfl
  have d1 := X2.cell (i := 1) rfl
  clear X0 X1 X2
  clear v0x v0y v1x v1y v2x v2y
  have CX := Lib.hid (fun W => wts_at a b c p f px py (.tuple #[.agg #[.int .i64 0, .int .i64 0, .int .i64 0], .int .i64 0]) (by rw [wtv_no _ _ hv]; rfl) W)
  have CY := Lib.hid (fun W => wts_at a b c p f qx qy (.tuple #[.agg #[.int .i64 0, .int .i64 0, .int .i64 0], .int .i64 0]) (by rw [wtv_no _ _ hv]; rfl) W)
  have CV := Lib.hid (fun W => valid_at a b c p f false hv W)
  have EQ := fun W => eq3 0 0 0 0 0 0 W
  simp only [beq_self_eq_true, Bool.and_self] at EQ
  have GU := guard3
  clear hv
  go_enter Try.func6, Try.ntmps6
  go_wp2_with (first
    | ((with_reducible refine eload17L rk_tr Etr ?_ ?_); focus rfl)
    | (go_at_call 18; (with_reducible refine (CX.out _).mono ?_); rintro _ W1 ⟨rfl, B⟩; replace BB := bon BB (bon B (box_below W1 #[.int .i64 0, .int .i64 0, .int .i64 0] 35)); replace Etr := rangeAt_on Etr (bon B (box_below W1 #[.int .i64 0, .int .i64 0, .int .i64 0] 35)); replace c0 := cell_below (bon B (box_below W1 #[.int .i64 0, .int .i64 0, .int .i64 0] 35)) c0; replace c1 := cell_below (bon B (box_below W1 #[.int .i64 0, .int .i64 0, .int .i64 0] 35)) c1; replace d0 := cell_below (bon B (box_below W1 #[.int .i64 0, .int .i64 0, .int .i64 0] 35)) d0; replace d1 := cell_below (bon B (box_below W1 #[.int .i64 0, .int .i64 0, .int .i64 0] 35)) d1; have g0 := box_cell W1 #[.int .i64 0, .int .i64 0, .int .i64 0] 35 0 _ rfl; have g1 := box_cell W1 #[.int .i64 0, .int .i64 0, .int .i64 0] 35 1 _ rfl; have g2 := box_cell W1 #[.int .i64 0, .int .i64 0, .int .i64 0] 35 2 _ rfl; clear B)
    | (go_at_call 18; (with_reducible refine (CY.out _).mono ?_); rintro _ W2 ⟨rfl, B⟩; replace BB := bon BB (bon B (box_below W2 #[.int .i64 0, .int .i64 0, .int .i64 0] 35)); replace Etr := rangeAt_on Etr (bon B (box_below W2 #[.int .i64 0, .int .i64 0, .int .i64 0] 35)); replace c0 := cell_below (bon B (box_below W2 #[.int .i64 0, .int .i64 0, .int .i64 0] 35)) c0; replace c1 := cell_below (bon B (box_below W2 #[.int .i64 0, .int .i64 0, .int .i64 0] 35)) c1; replace d0 := cell_below (bon B (box_below W2 #[.int .i64 0, .int .i64 0, .int .i64 0] 35)) d0; replace d1 := cell_below (bon B (box_below W2 #[.int .i64 0, .int .i64 0, .int .i64 0] 35)) d1; replace g0 := cell_below (bon B (box_below W2 #[.int .i64 0, .int .i64 0, .int .i64 0] 35)) g0; replace g1 := cell_below (bon B (box_below W2 #[.int .i64 0, .int .i64 0, .int .i64 0] 35)) g1; replace g2 := cell_below (bon B (box_below W2 #[.int .i64 0, .int .i64 0, .int .i64 0] 35)) g2; have k0 := box_cell W2 #[.int .i64 0, .int .i64 0, .int .i64 0] 35 0 _ rfl; have k1 := box_cell W2 #[.int .i64 0, .int .i64 0, .int .i64 0] 35 1 _ rfl; have k2 := box_cell W2 #[.int .i64 0, .int .i64 0, .int .i64 0] 35 2 _ rfl; clear B)
    | (go_at_call 22; (with_reducible refine (CV.out _).mono ?_); rintro _ W3 ⟨rfl, B⟩; replace BB := bon BB B; replace g0 := cell_below (B) g0; replace g1 := cell_below (B) g1; replace g2 := cell_below (B) g2; replace k0 := cell_below (B) k0; replace k1 := cell_below (B) k1; replace k2 := cell_below (B) k2; clear B)
    | (go_at_call 13; (with_reducible refine (example34_b _).mono ?_); rintro _ W4 ⟨rfl, B⟩; replace BB := bon BB B; skip; clear B))
  go_ret
  exact ⟨rfl, BB⟩

set_option maxRecDepth 100000 in
set_option maxHeartbeats 8000000 in
theorem sum_yes (a b c : SV) (p : Int) (f : Bool) (px py qx qy S x0 x1 x2 y0 y1 y2 : Int) (hv : trv a b c = true) (hx : wtv a b c px py = (x0, x1, x2)) (hy : wtv a b c qx qy = (y0, y1, y2)) (h0 : wtv a b c a.x a.y = (S, 0, 0)) (h1 : wtv a b c b.x b.y = (0, S, 0)) (h2 : wtv a b c c.x c.y = (0, 0, S))
    (hS : 0 < S ∧ S ≤ 536870912) (ex : x0 + x1 + x2 = S) (ey : y0 + y1 + y2 = S) (bx : (-536870912 ≤ x0 ∧ x0 ≤ 536870912) ∧ (-536870912 ≤ x1 ∧ x1 ≤ 536870912) ∧ (-536870912 ≤ x2 ∧ x2 ≤ 536870912)) (by' : (-536870912 ≤ y0 ∧ y0 ≤ 536870912) ∧ (-536870912 ≤ y1 ∧ y1 ≤ 536870912) ∧ (-536870912 ≤ y2 ∧ y2 ≤ 536870912)) (w : World) :
    Calls Try.prog 6 #[.agg #[.int .i64 a.x, .int .i64 a.y, .int .i64 a.z, .int .i64 a.q, .slice a.A a.n a.c, .int .i64 b.x, .int .i64 b.y, .int .i64 b.z, .int .i64 b.q, .slice b.A b.n b.c, .int .i64 c.x, .int .i64 c.y, .int .i64 c.z, .int .i64 c.q, .slice c.A c.n c.c, .int .i64 p, .bool f], .agg #[.int .i64 px, .int .i64 py], .agg #[.int .i64 qx, .int .i64 qy]] w fun e w' => e = .returned (.bool true) ∧ Below w.heap.size w w' := by
  have BB := box_below w #[.int .i64 a.x, .int .i64 a.y, .int .i64 a.z, .int .i64 a.q, .slice a.A a.n a.c, .int .i64 b.x, .int .i64 b.y, .int .i64 b.z, .int .i64 b.q, .slice b.A b.n b.c, .int .i64 c.x, .int .i64 c.y, .int .i64 c.z, .int .i64 c.q, .slice c.A c.n c.c, .int .i64 p, .bool f] 34
  have X0 := EBox.made w #[.int .i64 a.x, .int .i64 a.y, .int .i64 a.z, .int .i64 a.q, .slice a.A a.n a.c, .int .i64 b.x, .int .i64 b.y, .int .i64 b.z, .int .i64 b.q, .slice b.A b.n b.c, .int .i64 c.x, .int .i64 c.y, .int .i64 c.z, .int .i64 c.q, .slice c.A c.n c.c, .int .i64 p, .bool f] 34
  have hsz1 : (w.alloc (.cells #[.int .i64 a.x, .int .i64 a.y, .int .i64 a.z, .int .i64 a.q, .slice a.A a.n a.c, .int .i64 b.x, .int .i64 b.y, .int .i64 b.z, .int .i64 b.q, .slice b.A b.n b.c, .int .i64 c.x, .int .i64 c.y, .int .i64 c.z, .int .i64 c.q, .slice c.A c.n c.c, .int .i64 p, .bool f] 34)).heap.size = w.heap.size + 1 := by simp
  have X1 := EBox.made (w.alloc (.cells #[.int .i64 a.x, .int .i64 a.y, .int .i64 a.z, .int .i64 a.q, .slice a.A a.n a.c, .int .i64 b.x, .int .i64 b.y, .int .i64 b.z, .int .i64 b.q, .slice b.A b.n b.c, .int .i64 c.x, .int .i64 c.y, .int .i64 c.z, .int .i64 c.q, .slice c.A c.n c.c, .int .i64 p, .bool f] 34)) #[.int .i64 px, .int .i64 py] 22
  rw [hsz1] at X1
  replace X0 := X0.on (Nat.succ_pos _) (box_below (w.alloc (.cells #[.int .i64 a.x, .int .i64 a.y, .int .i64 a.z, .int .i64 a.q, .slice a.A a.n a.c, .int .i64 b.x, .int .i64 b.y, .int .i64 b.z, .int .i64 b.q, .slice b.A b.n b.c, .int .i64 c.x, .int .i64 c.y, .int .i64 c.z, .int .i64 c.q, .slice c.A c.n c.c, .int .i64 p, .bool f] 34)) #[.int .i64 px, .int .i64 py] 22)
  replace BB := bon BB (box_below (w.alloc (.cells #[.int .i64 a.x, .int .i64 a.y, .int .i64 a.z, .int .i64 a.q, .slice a.A a.n a.c, .int .i64 b.x, .int .i64 b.y, .int .i64 b.z, .int .i64 b.q, .slice b.A b.n b.c, .int .i64 c.x, .int .i64 c.y, .int .i64 c.z, .int .i64 c.q, .slice c.A c.n c.c, .int .i64 p, .bool f] 34)) #[.int .i64 px, .int .i64 py] 22)
  clear hsz1
  have hsz2 : ((w.alloc (.cells #[.int .i64 a.x, .int .i64 a.y, .int .i64 a.z, .int .i64 a.q, .slice a.A a.n a.c, .int .i64 b.x, .int .i64 b.y, .int .i64 b.z, .int .i64 b.q, .slice b.A b.n b.c, .int .i64 c.x, .int .i64 c.y, .int .i64 c.z, .int .i64 c.q, .slice c.A c.n c.c, .int .i64 p, .bool f] 34)).alloc (.cells #[.int .i64 px, .int .i64 py] 22)).heap.size = w.heap.size + 2 := by simp
  have X2 := EBox.made ((w.alloc (.cells #[.int .i64 a.x, .int .i64 a.y, .int .i64 a.z, .int .i64 a.q, .slice a.A a.n a.c, .int .i64 b.x, .int .i64 b.y, .int .i64 b.z, .int .i64 b.q, .slice b.A b.n b.c, .int .i64 c.x, .int .i64 c.y, .int .i64 c.z, .int .i64 c.q, .slice c.A c.n c.c, .int .i64 p, .bool f] 34)).alloc (.cells #[.int .i64 px, .int .i64 py] 22)) #[.int .i64 qx, .int .i64 qy] 22
  rw [hsz2] at X2
  replace X0 := X0.on (Nat.succ_pos _) (box_below ((w.alloc (.cells #[.int .i64 a.x, .int .i64 a.y, .int .i64 a.z, .int .i64 a.q, .slice a.A a.n a.c, .int .i64 b.x, .int .i64 b.y, .int .i64 b.z, .int .i64 b.q, .slice b.A b.n b.c, .int .i64 c.x, .int .i64 c.y, .int .i64 c.z, .int .i64 c.q, .slice c.A c.n c.c, .int .i64 p, .bool f] 34)).alloc (.cells #[.int .i64 px, .int .i64 py] 22)) #[.int .i64 qx, .int .i64 qy] 22)
  replace X1 := X1.on (Nat.succ_pos _) (box_below ((w.alloc (.cells #[.int .i64 a.x, .int .i64 a.y, .int .i64 a.z, .int .i64 a.q, .slice a.A a.n a.c, .int .i64 b.x, .int .i64 b.y, .int .i64 b.z, .int .i64 b.q, .slice b.A b.n b.c, .int .i64 c.x, .int .i64 c.y, .int .i64 c.z, .int .i64 c.q, .slice c.A c.n c.c, .int .i64 p, .bool f] 34)).alloc (.cells #[.int .i64 px, .int .i64 py] 22)) #[.int .i64 qx, .int .i64 qy] 22)
  replace BB := bon BB (box_below ((w.alloc (.cells #[.int .i64 a.x, .int .i64 a.y, .int .i64 a.z, .int .i64 a.q, .slice a.A a.n a.c, .int .i64 b.x, .int .i64 b.y, .int .i64 b.z, .int .i64 b.q, .slice b.A b.n b.c, .int .i64 c.x, .int .i64 c.y, .int .i64 c.z, .int .i64 c.q, .slice c.A c.n c.c, .int .i64 p, .bool f] 34)).alloc (.cells #[.int .i64 px, .int .i64 py] 22)) #[.int .i64 qx, .int .i64 qy] 22)
  clear hsz2
  have v0x := X0.cell (i := 0) rfl
  have v0y := X0.cell (i := 1) rfl
  have v1x := X0.cell (i := 5) rfl
  have v1y := X0.cell (i := 6) rfl
  have v2x := X0.cell (i := 10) rfl
  have v2y := X0.cell (i := 11) rfl
  have Etr := range_cut X0.1 0 17
  simp only [List.drop_succ_cons, List.drop_zero, List.take_succ_cons, List.take_zero, Nat.zero_add] at Etr
  have c0 := X1.cell (i := 0) rfl
  have c1 := X1.cell (i := 1) rfl
  have d0 := X2.cell (i := 0) rfl
  have d1 := X2.cell (i := 1) rfl
  clear X0 X1 X2
  have CX := Lib.hid (fun W => wts_at a b c p f px py (.tuple #[.agg #[.int .i64 x0, .int .i64 x1, .int .i64 x2], .int .i64 S]) (by rw [hx, wres]; simp only; rw [ex]) W)
  have CY := Lib.hid (fun W => wts_at a b c p f qx qy (.tuple #[.agg #[.int .i64 y0, .int .i64 y1, .int .i64 y2], .int .i64 S]) (by rw [hy, wres]; simp only; rw [ey]) W)
  have CU0 := Lib.hid (fun W => wts_at a b c p f a.x a.y (.tuple #[.agg #[.int .i64 S, .int .i64 0, .int .i64 0], .int .i64 S]) (by rw [h0, wres]; simp) W)
  have CU1 := Lib.hid (fun W => wts_at a b c p f b.x b.y (.tuple #[.agg #[.int .i64 0, .int .i64 S, .int .i64 0], .int .i64 S]) (by rw [h1, wres]; simp) W)
  have CU2 := Lib.hid (fun W => wts_at a b c p f c.x c.y (.tuple #[.agg #[.int .i64 0, .int .i64 0, .int .i64 S], .int .i64 S]) (by rw [h2, wres]; simp) W)
  have CV := Lib.hid (fun W => valid_at a b c p f true hv W)
  obtain ⟨hS, hS2⟩ := hS
  obtain ⟨⟨bx1, bx2⟩, ⟨bx3, bx4⟩, bx5, bx6⟩ := bx
  obtain ⟨⟨by1, by2⟩, ⟨by3, by4⟩, by5, by6⟩ := by'
  have q9 : decide (S ≤ 0) = false := decide_eq_false (by omega)
  clear hv hx hy h0 h1 h2
  go_enter Try.func6, Try.ntmps6
  go_wp2_with (first
    | ((with_reducible refine eload17L rk_tr Etr ?_ ?_); focus rfl)
    | (go_at_call 18; (with_reducible refine (CX.out _).mono ?_); rintro _ W1 ⟨rfl, B⟩; replace BB := bon BB (bon B (box_below W1 #[.int .i64 x0, .int .i64 x1, .int .i64 x2] 35)); replace Etr := rangeAt_on Etr (bon B (box_below W1 #[.int .i64 x0, .int .i64 x1, .int .i64 x2] 35)); replace c0 := cell_below (bon B (box_below W1 #[.int .i64 x0, .int .i64 x1, .int .i64 x2] 35)) c0; replace c1 := cell_below (bon B (box_below W1 #[.int .i64 x0, .int .i64 x1, .int .i64 x2] 35)) c1; replace d0 := cell_below (bon B (box_below W1 #[.int .i64 x0, .int .i64 x1, .int .i64 x2] 35)) d0; replace d1 := cell_below (bon B (box_below W1 #[.int .i64 x0, .int .i64 x1, .int .i64 x2] 35)) d1; replace v0x := cell_below (bon B (box_below W1 #[.int .i64 x0, .int .i64 x1, .int .i64 x2] 35)) v0x; replace v0y := cell_below (bon B (box_below W1 #[.int .i64 x0, .int .i64 x1, .int .i64 x2] 35)) v0y; replace v1x := cell_below (bon B (box_below W1 #[.int .i64 x0, .int .i64 x1, .int .i64 x2] 35)) v1x; replace v1y := cell_below (bon B (box_below W1 #[.int .i64 x0, .int .i64 x1, .int .i64 x2] 35)) v1y; replace v2x := cell_below (bon B (box_below W1 #[.int .i64 x0, .int .i64 x1, .int .i64 x2] 35)) v2x; replace v2y := cell_below (bon B (box_below W1 #[.int .i64 x0, .int .i64 x1, .int .i64 x2] 35)) v2y; have g0 := box_cell W1 #[.int .i64 x0, .int .i64 x1, .int .i64 x2] 35 0 _ rfl; have g1 := box_cell W1 #[.int .i64 x0, .int .i64 x1, .int .i64 x2] 35 1 _ rfl; have g2 := box_cell W1 #[.int .i64 x0, .int .i64 x1, .int .i64 x2] 35 2 _ rfl; clear B)
    | (go_at_call 18; (with_reducible refine (CY.out _).mono ?_); rintro _ W2 ⟨rfl, B⟩; replace BB := bon BB (bon B (box_below W2 #[.int .i64 y0, .int .i64 y1, .int .i64 y2] 35)); replace Etr := rangeAt_on Etr (bon B (box_below W2 #[.int .i64 y0, .int .i64 y1, .int .i64 y2] 35)); replace c0 := cell_below (bon B (box_below W2 #[.int .i64 y0, .int .i64 y1, .int .i64 y2] 35)) c0; replace c1 := cell_below (bon B (box_below W2 #[.int .i64 y0, .int .i64 y1, .int .i64 y2] 35)) c1; replace d0 := cell_below (bon B (box_below W2 #[.int .i64 y0, .int .i64 y1, .int .i64 y2] 35)) d0; replace d1 := cell_below (bon B (box_below W2 #[.int .i64 y0, .int .i64 y1, .int .i64 y2] 35)) d1; replace v0x := cell_below (bon B (box_below W2 #[.int .i64 y0, .int .i64 y1, .int .i64 y2] 35)) v0x; replace v0y := cell_below (bon B (box_below W2 #[.int .i64 y0, .int .i64 y1, .int .i64 y2] 35)) v0y; replace v1x := cell_below (bon B (box_below W2 #[.int .i64 y0, .int .i64 y1, .int .i64 y2] 35)) v1x; replace v1y := cell_below (bon B (box_below W2 #[.int .i64 y0, .int .i64 y1, .int .i64 y2] 35)) v1y; replace v2x := cell_below (bon B (box_below W2 #[.int .i64 y0, .int .i64 y1, .int .i64 y2] 35)) v2x; replace v2y := cell_below (bon B (box_below W2 #[.int .i64 y0, .int .i64 y1, .int .i64 y2] 35)) v2y; replace g0 := cell_below (bon B (box_below W2 #[.int .i64 y0, .int .i64 y1, .int .i64 y2] 35)) g0; replace g1 := cell_below (bon B (box_below W2 #[.int .i64 y0, .int .i64 y1, .int .i64 y2] 35)) g1; replace g2 := cell_below (bon B (box_below W2 #[.int .i64 y0, .int .i64 y1, .int .i64 y2] 35)) g2; have k0 := box_cell W2 #[.int .i64 y0, .int .i64 y1, .int .i64 y2] 35 0 _ rfl; have k1 := box_cell W2 #[.int .i64 y0, .int .i64 y1, .int .i64 y2] 35 1 _ rfl; have k2 := box_cell W2 #[.int .i64 y0, .int .i64 y1, .int .i64 y2] 35 2 _ rfl; clear B)
    | (go_at_call 22; (with_reducible refine (CV.out _).mono ?_); rintro _ W3 ⟨rfl, B⟩; replace BB := bon BB B; replace Etr := rangeAt_on Etr (B); replace v0x := cell_below (B) v0x; replace v0y := cell_below (B) v0y; replace v1x := cell_below (B) v1x; replace v1y := cell_below (B) v1y; replace v2x := cell_below (B) v2x; replace v2y := cell_below (B) v2y; replace g0 := cell_below (B) g0; replace g1 := cell_below (B) g1; replace g2 := cell_below (B) g2; replace k0 := cell_below (B) k0; replace k1 := cell_below (B) k1; replace k2 := cell_below (B) k2; clear B))
  have LE := Lib.hid Etr
  have L0x := Lib.hid v0x
  have L0y := Lib.hid v0y
  have L1x := Lib.hid v1x
  have L1y := Lib.hid v1y
  have L2x := Lib.hid v2x
  have L2y := Lib.hid v2y
  clear CX CY CV Etr c0 c1 d0 d1 v0x v0y v1x v1y v2x v2y g0 g1 g2 k0 k1 k2
  rename World => W4
  go_loopw [11] (fun i wr => ∃ k : Nat, k ≤ 3 ∧ i = .int .i64 k ∧ Below W4.heap.size W4 wr) (fun i _ => 3 - (intOf i).toNat)
  case atStart => exact ⟨0, Nat.zero_le _, rfl, Below.refl _ _⟩
  case round =>
    obtain ⟨k, hk, rfl, B1⟩ := hrel
    rename World => wr
    rcases (show k = 0 ∨ k = 1 ∨ k = 2 ∨ k = 3 by omega) with rfl | rfl | rfl | rfl
    · skip
      have Etr := rangeAt_on LE.out B1
      have vx := cell_below B1 L0x.out
      have vy := cell_below B1 L0y.out
      have BX := BB
      clear BB
      have BB := B1
      go_wp2_with fail
      refine wp_region_mix1 (fl := true) (af := ?afs0) 15 (by kernel_rfl) zero_a3 (Nat.succ_pos _) rfl (by kernel_rfl) (by kernel_rfl) ?h1s0 ?h2s0
      case h1s0 =>
        intro U9 BU9
        simp only [List.take_succ_cons, List.take_zero]
        replace Etr := rangeAt_on Etr (BU9)
        replace vx := cell_below (BU9) vx
        replace vy := cell_below (BU9) vy
        have k_vx := cell_regrown vx
        have k_vy := cell_regrown vy
        repeat (first | ((try simp only [List.getElem_toArray, List.getElem_cons_succ, List.getElem_cons_zero]); go_big_quiet_want; refine quiet_eload _ _ rfl rk_tr rfl (fun W hW => rangeAt_on Etr (below_regrown' hW)) rfl ?_; go_simp; go_big_quiet_on) | ((try simp only [List.getElem_toArray, List.getElem_cons_succ, List.getElem_cons_zero]); go_big_quiet_step ((first | (go_at_call 18; with_reducible exact Calls.regrown_of (CU0.out _))))) | ((try simp only [List.getElem_toArray, List.getElem_cons_succ, List.getElem_cons_zero]); quiet_step ((first | (go_at_call 18; with_reducible exact Calls.regrown_of (CU0.out _))))))
        refine wpQuiet_nil ?_
        rfl
      intro bu V0 lbu BT9 Xbu
      refine tree_one rfl ?_
      refine esetL (vs := [.int .i64 S, .int .i64 0, .int .i64 0]) rk_a3 rfl rfl Xbu rfl rfl (by simp [Value.oneCell']) ?_
      intro V1 Ybu B9 hc9 hf9
      replace BT9 := BT9.trans (B9.mono lbu)
      replace Xbu := Ybu
      clear B9 hc9 hf9
      refine ⟨fun _ => BT9, ?_⟩
      refine tree_one rfl ?_
      refine wpList_assignL ?_
      refine ⟨fun _ => BT9, ?_⟩
      refine tree_nil ?_
      replace Etr := rangeAt_on Etr (BT9)
      replace vx := cell_below (BT9) vx
      replace vy := cell_below (BT9) vy
      replace BB := bon BB BT9
      clear BT9
      have y0 := Xbu.cell (i := 0) rfl
      have y1 := Xbu.cell (i := 1) rfl
      have y2 := Xbu.cell (i := 2) rfl
      go_wp2_with fail
      go_roundw
      case rel => exact ⟨1, by omega, by go_num, BB⟩
      case measure => simp [intOf]
    · skip
      have Etr := rangeAt_on LE.out B1
      have vx := cell_below B1 L1x.out
      have vy := cell_below B1 L1y.out
      have BX := BB
      clear BB
      have BB := B1
      go_wp2_with fail
      refine wp_region_mix1 (fl := true) (af := ?afs1) 15 (by kernel_rfl) zero_a3 (Nat.succ_pos _) rfl (by kernel_rfl) (by kernel_rfl) ?h1s1 ?h2s1
      case h1s1 =>
        intro U9 BU9
        simp only [List.take_succ_cons, List.take_zero]
        replace Etr := rangeAt_on Etr (BU9)
        replace vx := cell_below (BU9) vx
        replace vy := cell_below (BU9) vy
        have k_vx := cell_regrown vx
        have k_vy := cell_regrown vy
        repeat (first | ((try simp only [List.getElem_toArray, List.getElem_cons_succ, List.getElem_cons_zero]); go_big_quiet_want; refine quiet_eload _ _ rfl rk_tr rfl (fun W hW => rangeAt_on Etr (below_regrown' hW)) rfl ?_; go_simp; go_big_quiet_on) | ((try simp only [List.getElem_toArray, List.getElem_cons_succ, List.getElem_cons_zero]); go_big_quiet_step ((first | (go_at_call 18; with_reducible exact Calls.regrown_of (CU1.out _))))) | ((try simp only [List.getElem_toArray, List.getElem_cons_succ, List.getElem_cons_zero]); quiet_step ((first | (go_at_call 18; with_reducible exact Calls.regrown_of (CU1.out _))))))
        refine wpQuiet_nil ?_
        rfl
      intro bu V0 lbu BT9 Xbu
      refine tree_one rfl ?_
      refine esetL (vs := [.int .i64 0, .int .i64 S, .int .i64 0]) rk_a3 rfl rfl Xbu rfl rfl (by simp [Value.oneCell']) ?_
      intro V1 Ybu B9 hc9 hf9
      replace BT9 := BT9.trans (B9.mono lbu)
      replace Xbu := Ybu
      clear B9 hc9 hf9
      refine ⟨fun _ => BT9, ?_⟩
      refine tree_one rfl ?_
      refine wpList_assignL ?_
      refine ⟨fun _ => BT9, ?_⟩
      refine tree_nil ?_
      replace Etr := rangeAt_on Etr (BT9)
      replace vx := cell_below (BT9) vx
      replace vy := cell_below (BT9) vy
      replace BB := bon BB BT9
      clear BT9
      have y0 := Xbu.cell (i := 0) rfl
      have y1 := Xbu.cell (i := 1) rfl
      have y2 := Xbu.cell (i := 2) rfl
      go_wp2_with fail
      go_roundw
      case rel => exact ⟨2, by omega, by go_num, BB⟩
      case measure => simp [intOf]
    · skip
      have Etr := rangeAt_on LE.out B1
      have vx := cell_below B1 L2x.out
      have vy := cell_below B1 L2y.out
      have BX := BB
      clear BB
      have BB := B1
      go_wp2_with fail
      refine wp_region_mix1 (fl := true) (af := ?afs2) 15 (by kernel_rfl) zero_a3 (Nat.succ_pos _) rfl (by kernel_rfl) (by kernel_rfl) ?h1s2 ?h2s2
      case h1s2 =>
        intro U9 BU9
        simp only [List.take_succ_cons, List.take_zero]
        replace Etr := rangeAt_on Etr (BU9)
        replace vx := cell_below (BU9) vx
        replace vy := cell_below (BU9) vy
        have k_vx := cell_regrown vx
        have k_vy := cell_regrown vy
        repeat (first | ((try simp only [List.getElem_toArray, List.getElem_cons_succ, List.getElem_cons_zero]); go_big_quiet_want; refine quiet_eload _ _ rfl rk_tr rfl (fun W hW => rangeAt_on Etr (below_regrown' hW)) rfl ?_; go_simp; go_big_quiet_on) | ((try simp only [List.getElem_toArray, List.getElem_cons_succ, List.getElem_cons_zero]); go_big_quiet_step ((first | (go_at_call 18; with_reducible exact Calls.regrown_of (CU2.out _))))) | ((try simp only [List.getElem_toArray, List.getElem_cons_succ, List.getElem_cons_zero]); quiet_step ((first | (go_at_call 18; with_reducible exact Calls.regrown_of (CU2.out _))))))
        refine wpQuiet_nil ?_
        rfl
      intro bu V0 lbu BT9 Xbu
      refine tree_one rfl ?_
      refine esetL (vs := [.int .i64 0, .int .i64 0, .int .i64 S]) rk_a3 rfl rfl Xbu rfl rfl (by simp [Value.oneCell']) ?_
      intro V1 Ybu B9 hc9 hf9
      replace BT9 := BT9.trans (B9.mono lbu)
      replace Xbu := Ybu
      clear B9 hc9 hf9
      refine ⟨fun _ => BT9, ?_⟩
      refine tree_one rfl ?_
      refine wpList_assignL ?_
      refine ⟨fun _ => BT9, ?_⟩
      refine tree_nil ?_
      replace Etr := rangeAt_on Etr (BT9)
      replace vx := cell_below (BT9) vx
      replace vy := cell_below (BT9) vy
      replace BB := bon BB BT9
      clear BT9
      have y0 := Xbu.cell (i := 0) rfl
      have y1 := Xbu.cell (i := 1) rfl
      have y2 := Xbu.cell (i := 2) rfl
      go_wp2_with fail
      go_roundw
      case rel => exact ⟨3, by omega, by go_num, BB⟩
      case measure => simp [intOf]
    · replace BB := bon BB B1
      go_wp2_with (go_at_call 13; (with_reducible refine (example34_b _).mono ?_); rintro _ W5 ⟨rfl, B⟩; replace BB := bon BB B; skip; clear B)
      go_ret
      exact ⟨rfl, BB⟩

theorem sum_walk (a b c : SV) (p : Int) (f : Bool) (px py qx qy : Int) (w : World) : Calls Try.prog 6 #[.agg #[.int .i64 a.x, .int .i64 a.y, .int .i64 a.z, .int .i64 a.q, .slice a.A a.n a.c, .int .i64 b.x, .int .i64 b.y, .int .i64 b.z, .int .i64 b.q, .slice b.A b.n b.c, .int .i64 c.x, .int .i64 c.y, .int .i64 c.z, .int .i64 c.q, .slice c.A c.n c.c, .int .i64 p, .bool f], .agg #[.int .i64 px, .int .i64 py], .agg #[.int .i64 qx, .int .i64 qy]] w fun e w' => e = .returned (.bool true) ∧ Below w.heap.size w w' := by
  cases hv : trv a b c
  · exact sum_no a b c p f px py qx qy hv w
  · obtain ⟨h0, h1, h2⟩ := wt_own hv
    have hb := areav_bd a b c
    have hA : 0 < areav a b c := by unfold trv at hv; simpa using hv
    refine sum_yes a b c p f px py qx qy _ _ _ _ _ _ _ hv (wtv_yes px py hv) (wtv_yes qx qy hv) h0 h1 h2 ⟨hA, by omega⟩ (wt_sum hv px py) (wt_sum hv qx qy) ⟨efn_bd _ _ _ _ _ _, efn_bd _ _ _ _ _ _, efn_bd _ _ _ _ _ _⟩ ⟨efn_bd _ _ _ _ _ _, efn_bd _ _ _ _ _ _, efn_bd _ _ _ _ _ _⟩ w

end Go.Proofs.Ytmmhnhjipbecdaa
