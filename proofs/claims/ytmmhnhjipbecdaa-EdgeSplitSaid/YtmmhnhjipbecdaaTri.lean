/- Vertices and triangles in screen space by value: their cells. No function of a program is named here. -/
import Derived.Test.YtmmhnhjipbecdaaProg
import Derived.Test.YtmmhnhjipbecdaaRowN
namespace Go.Proofs.Ytmmhnhjipbecdaa
set_option linter.unusedSimpArgs false
open Go.ChangeShapes Go.WideShapes Go.RowKit Go.Sort

/-- A vertex: its four numbers and its slice of varyings. -/
structure SV where
  x : Int
  y : Int
  z : Int
  q : Int
  A : Option Addr
  n : Nat
  c : Nat

theorem rk_sv : RowK Try.prog 31 5 := ⟨⟨_, Try.underlying31, rfl⟩, by kernel_rfl⟩

theorem rk_t3 : RowK Try.prog 32 15 := ⟨⟨_, Try.underlying32, rfl⟩, by kernel_rfl⟩

theorem rk_tr : RowK Try.prog 34 17 := ⟨⟨_, Try.underlying34, rfl⟩, by kernel_rfl⟩

theorem ixv0 (a b c : SV) (W : World) : (Instr.index 32 (.agg #[.int .i64 a.x, .int .i64 a.y, .int .i64 a.z, .int .i64 a.q, .slice a.A a.n a.c, .int .i64 b.x, .int .i64 b.y, .int .i64 b.z, .int .i64 b.q, .slice b.A b.n b.c, .int .i64 c.x, .int .i64 c.y, .int .i64 c.z, .int .i64 c.q, .slice c.A c.n c.c]) (.int .i64 0)).run Try.prog W = .ok (.agg #[.int .i64 a.x, .int .i64 a.y, .int .i64 a.z, .int .i64 a.q, .slice a.A a.n a.c]) W := by
  simp [Instr.index, run_underlying Try.underlying32, asIntOf, Try.sizeOf31, Try.isAgg31, part, go_sem]

theorem ixv1 (a b c : SV) (W : World) : (Instr.index 32 (.agg #[.int .i64 a.x, .int .i64 a.y, .int .i64 a.z, .int .i64 a.q, .slice a.A a.n a.c, .int .i64 b.x, .int .i64 b.y, .int .i64 b.z, .int .i64 b.q, .slice b.A b.n b.c, .int .i64 c.x, .int .i64 c.y, .int .i64 c.z, .int .i64 c.q, .slice c.A c.n c.c]) (.int .i64 1)).run Try.prog W = .ok (.agg #[.int .i64 b.x, .int .i64 b.y, .int .i64 b.z, .int .i64 b.q, .slice b.A b.n b.c]) W := by
  simp [Instr.index, run_underlying Try.underlying32, asIntOf, Try.sizeOf31, Try.isAgg31, part, go_sem]

theorem ixv2 (a b c : SV) (W : World) : (Instr.index 32 (.agg #[.int .i64 a.x, .int .i64 a.y, .int .i64 a.z, .int .i64 a.q, .slice a.A a.n a.c, .int .i64 b.x, .int .i64 b.y, .int .i64 b.z, .int .i64 b.q, .slice b.A b.n b.c, .int .i64 c.x, .int .i64 c.y, .int .i64 c.z, .int .i64 c.q, .slice c.A c.n c.c]) (.int .i64 2)).run Try.prog W = .ok (.agg #[.int .i64 c.x, .int .i64 c.y, .int .i64 c.z, .int .i64 c.q, .slice c.A c.n c.c]) W := by
  simp [Instr.index, run_underlying Try.underlying32, asIntOf, Try.sizeOf31, Try.isAgg31, part, go_sem]

end Go.Proofs.Ytmmhnhjipbecdaa
