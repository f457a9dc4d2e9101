/- Vertices and triangles in screen space by value: their cells. No function of a program is named here. -/
import Derived.Test.YtcnemjkcihlpeaaProg
import Derived.Test.YtcnemjkcihlpeaaRowN
namespace Go.Proofs.Ytcnemjkcihlpeaa
set_option linter.unusedSimpArgs false
open Go.ChangeShapes Go.WideShapes Go.RowKit Go.Sort

/-- A vertex: its four numbers and its slice of varyings. -/
structure SV where
  x : Int
  y : Int
  z : Int
  q : Int
  A : Option Addr
  n : Nat
  c : Nat

theorem rk_sv : RowK Try.prog 33 5 := ⟨⟨_, Try.underlying33, rfl⟩, by kernel_rfl⟩

theorem rk_t3 : RowK Try.prog 34 15 := ⟨⟨_, Try.underlying34, rfl⟩, by kernel_rfl⟩

theorem rk_tr : RowK Try.prog 36 17 := ⟨⟨_, Try.underlying36, rfl⟩, by kernel_rfl⟩

theorem ixv0 (a b c : SV) (W : World) : (Instr.index 34 (.agg #[.int .i64 a.x, .int .i64 a.y, .int .i64 a.z, .int .i64 a.q, .slice a.A a.n a.c, .int .i64 b.x, .int .i64 b.y, .int .i64 b.z, .int .i64 b.q, .slice b.A b.n b.c, .int .i64 c.x, .int .i64 c.y, .int .i64 c.z, .int .i64 c.q, .slice c.A c.n c.c]) (.int .i64 0)).run Try.prog W = .ok (.agg #[.int .i64 a.x, .int .i64 a.y, .int .i64 a.z, .int .i64 a.q, .slice a.A a.n a.c]) W := by
  simp [Instr.index, run_underlying Try.underlying34, asIntOf, Try.sizeOf33, Try.isAgg33, part, go_sem]

theorem ixv1 (a b c : SV) (W : World) : (Instr.index 34 (.agg #[.int .i64 a.x, .int .i64 a.y, .int .i64 a.z, .int .i64 a.q, .slice a.A a.n a.c, .int .i64 b.x, .int .i64 b.y, .int .i64 b.z, .int .i64 b.q, .slice b.A b.n b.c, .int .i64 c.x, .int .i64 c.y, .int .i64 c.z, .int .i64 c.q, .slice c.A c.n c.c]) (.int .i64 1)).run Try.prog W = .ok (.agg #[.int .i64 b.x, .int .i64 b.y, .int .i64 b.z, .int .i64 b.q, .slice b.A b.n b.c]) W := by
  simp [Instr.index, run_underlying Try.underlying34, asIntOf, Try.sizeOf33, Try.isAgg33, part, go_sem]

theorem ixv2 (a b c : SV) (W : World) : (Instr.index 34 (.agg #[.int .i64 a.x, .int .i64 a.y, .int .i64 a.z, .int .i64 a.q, .slice a.A a.n a.c, .int .i64 b.x, .int .i64 b.y, .int .i64 b.z, .int .i64 b.q, .slice b.A b.n b.c, .int .i64 c.x, .int .i64 c.y, .int .i64 c.z, .int .i64 c.q, .slice c.A c.n c.c]) (.int .i64 2)).run Try.prog W = .ok (.agg #[.int .i64 c.x, .int .i64 c.y, .int .i64 c.z, .int .i64 c.q, .slice c.A c.n c.c]) W := by
  simp [Instr.index, run_underlying Try.underlying34, asIntOf, Try.sizeOf33, Try.isAgg33, part, go_sem]

end Go.Proofs.Ytcnemjkcihlpeaa
