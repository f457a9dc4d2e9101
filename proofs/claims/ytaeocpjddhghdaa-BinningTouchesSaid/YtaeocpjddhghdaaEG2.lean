/- What Valid, Covers, Weights, Bounds of package edge and of the reference return. -/
import Derived.Test.YtaeocpjddhghdaaEG1
import Derived.Test.YtaeocpjddhghdaaCopy
import Derived.Deep.RegionHeld
namespace Go.Proofs.Ytaeocpjddhghdaa
set_option linter.unusedSimpArgs false
open Go.RowKit Go.Sort Go.ChangeShapes Go.WideShapes
set_option linter.unusedVariables false

theorem zero_sv : ZeroIs Try.prog 32 #[.int .i64 0, .int .i64 0, .int .i64 0, .int .i64 0, .slice none 0 0] := zeroIs_of (by kernel_rfl)

/-- A triangle that is valid. -/
def tgv (a b c : SV) : Bool := decide (0 < areav a b c)

set_option maxRecDepth 100000 in
theorem valid34_b (a b c : SV) (p : Int) (f : Bool) (w : World) : Calls Try.prog 31 #[.agg #[.int .i64 a.x, .int .i64 a.y, .int .i64 a.z, .int .i64 a.q, .slice a.A a.n a.c, .int .i64 b.x, .int .i64 b.y, .int .i64 b.z, .int .i64 b.q, .slice b.A b.n b.c, .int .i64 c.x, .int .i64 c.y, .int .i64 c.z, .int .i64 c.q, .slice c.A c.n c.c, .int .i64 p, .bool f]] w fun e w' => e = .returned (.bool (tgv a b c)) ∧ Below w.heap.size w w' := by
  have BB := box_below w #[.int .i64 a.x, .int .i64 a.y, .int .i64 a.z, .int .i64 a.q, .slice a.A a.n a.c, .int .i64 b.x, .int .i64 b.y, .int .i64 b.z, .int .i64 b.q, .slice b.A b.n b.c, .int .i64 c.x, .int .i64 c.y, .int .i64 c.z, .int .i64 c.q, .slice c.A c.n c.c, .int .i64 p, .bool f] 35
  have X0 := EBox.made w #[.int .i64 a.x, .int .i64 a.y, .int .i64 a.z, .int .i64 a.q, .slice a.A a.n a.c, .int .i64 b.x, .int .i64 b.y, .int .i64 b.z, .int .i64 b.q, .slice b.A b.n b.c, .int .i64 c.x, .int .i64 c.y, .int .i64 c.z, .int .i64 c.q, .slice c.A c.n c.c, .int .i64 p, .bool f] 35
  have Et3 := range_cut X0.1 0 15
  simp only [List.drop_succ_cons, List.drop_zero, List.take_succ_cons, List.take_zero, Nat.zero_add] at Et3
  clear X0
  go_enter Try.func31, Try.ntmps31
  go_wp2_with (first
    | ((with_reducible refine eload15L rk_t3 Et3 ?_ ?_); focus rfl)
    | (first | (go_at_call 37; refine (area_b a b c _).mono ?_; rintro _ _ ⟨rfl, B⟩; replace BB := bon BB B)))
  go_ret
  exact ⟨rfl, BB⟩

theorem valid_at (a b c : SV) (p : Int) (f : Bool) (v : Bool) (h : tgv a b c = v) (w : World) : Calls Try.prog 31 #[.agg #[.int .i64 a.x, .int .i64 a.y, .int .i64 a.z, .int .i64 a.q, .slice a.A a.n a.c, .int .i64 b.x, .int .i64 b.y, .int .i64 b.z, .int .i64 b.q, .slice b.A b.n b.c, .int .i64 c.x, .int .i64 c.y, .int .i64 c.z, .int .i64 c.q, .slice c.A c.n c.c, .int .i64 p, .bool f]] w fun e w' => e = .returned (.bool v) ∧ Below w.heap.size w w' := h ▸ valid34_b a b c p f w

def cov (a b c : SV) (px py : Int) : Bool := tgv a b c && (acc a.x a.y b.x b.y px py && (acc b.x b.y c.x c.y px py && acc c.x c.y a.x a.y px py))

end Go.Proofs.Ytaeocpjddhghdaa
