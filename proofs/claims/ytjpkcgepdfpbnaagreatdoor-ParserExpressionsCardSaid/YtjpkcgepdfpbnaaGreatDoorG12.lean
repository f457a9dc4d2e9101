/- From what a row lists, and the shape of a world, to what the library's functions read. -/
import Derived.Test.YtjpkcgepdfpbnaaGreatDoorRows
import Derived.Test.YtjpkcgepdfpbnaaGreatDoorG5
import Derived.Stop.LaidErr
import Derived.Shelf.Vars
namespace Go.Proofs.YtjpkcgepdfpbnaaGreatDoor
open Go.RowKit Go.Sort

theorem gErr : Tryz.prog.globalNamed "strconv.ErrRange" = some 2 := by kernel_rfl
theorem gErrType : (Tryz.prog.globals[2]?).map (·.type) = some 164 := by kernel_rfl
theorem gPow : Tryz.prog.globalNamed "internal/strconv.uint64pow10" = some 3 := by kernel_rfl
theorem gPowType : (Tryz.prog.globals[3]?).map (·.type) = some 204 := by kernel_rfl
theorem gBru : Tryz.prog.globalNamed "math/bits.deBruijn64tab" = some 5 := by kernel_rfl
theorem gBruType : (Tryz.prog.globals[5]?).map (·.type) = some 210 := by kernel_rfl
theorem cellsPow : Tryz.prog.cellsOf 204 = 20 := by kernel_rfl
theorem cellsBru : Tryz.prog.cellsOf 210 = 64 := by kernel_rfl
theorem cellsU64 : Tryz.prog.cellsOf 181 = 1 := by kernel_rfl
theorem cellsU8 : Tryz.prog.cellsOf 5 = 1 := by kernel_rfl
theorem cellsStr : Tryz.prog.cellsOf 9 = 1 := by kernel_rfl
theorem cellsErr : Tryz.prog.cellsOf 196 = 1 := by kernel_rfl
theorem star : "*" ++ "errors.errorString" = "*errors.errorString" := by decide
theorem row_err (u : TypeId) (h : Tryz.prog.typeName? 3 u = some "*errors.errorString") : u = 194 :=
  typeName_ptr_named (nm := "errors.errorString") (by rw [star]; kernel_rfl) (by kernel_rfl) (by decide) u (by rw [star]; exact h)

/-- The powers of ten, and the table for trailing zeros, as a row lists them. -/
theorem pow_data : (Rows.laid_internal_strconv_uint64pow10 : DataW Unit) = Lib.tabData .u64 Lib.pow10Tab := by kernel_rfl
def bruTab : List Int := [0, 1, 56, 2, 57, 49, 28, 3, 61, 58, 42, 50, 38, 29, 17, 4, 62, 47, 59, 36, 45, 43, 51, 22, 53, 39, 33, 30, 24, 18, 12, 5, 63, 55, 48, 27, 60, 41, 37, 16, 46, 35, 44, 21, 52, 32, 23, 11, 54, 26, 40, 15, 34, 20, 31, 10, 25, 14, 19, 9, 13, 8, 7, 6]
theorem bru_data : (Rows.laid_math_bits_deBruijn64tab : DataW Unit) = Lib.tabData .u8 bruTab := by kernel_rfl

theorem lay_of {W : World} {r1 r2 r3 : List (String × DataW Unit)} (h1 : laidMet Tryz.prog (("math/bits.deBruijn64tab", Rows.laid_math_bits_deBruijn64tab) :: r1) W)
    (h2 : laidMet Tryz.prog (("internal/strconv.uint64pow10", Rows.laid_internal_strconv_uint64pow10) :: r2) W) (h3 : laidMet Tryz.prog (("strconv.ErrRange", Rows.laid_strconv_ErrRange) :: r3) W) (hsh : W.ShapedOpen Tryz.prog) : Lay6 W := by
  rw [bru_data] at h1
  rw [pow_data] at h2
  obtain ⟨a1, s1, hv1, -, -, -⟩ := laid_sentinel h3 gErr gErrType Tryz.underlying164 row_err Tryz.underlying194 Tryz.underlying196 rfl rfl Tryz.underlying9 cellsErr cellsStr
  refine ⟨Lib.tabIs_of_head gPow gPowType Tryz.underlying204 Tryz.underlying181 cellsU64 cellsPow h2, ⟨_, _, hv1⟩, ?_, ?_⟩
  · exact cell_of_shapedOpen_int (zero := #[.int .i64 0]) (t := 3) hsh (of_decide_eq_true (by kernel_rfl)) (by kernel_rfl) rfl (by kernel_rfl) (by kernel_rfl) Tryz.underlying3
  · exact (Lib.tabIs_of_head gBru gBruType Tryz.underlying210 Tryz.underlying5 cellsU8 cellsBru h1).cell gBru 15 (by decide)

end Go.Proofs.YtjpkcgepdfpbnaaGreatDoor
