/- The walk of SamplerLinearGrid: its cases together. -/
import Derived.Test.YtoipmldbjciinaaS12a
import Derived.Test.YtoipmldbjciinaaS12b
import Derived.Test.YtoipmldbjciinaaS12c
import Derived.Test.YtoipmldbjciinaaS12d
import Derived.Test.YtoipmldbjciinaaS12e
namespace Go.Proofs.Ytoipmldbjciinaa
open Go.RowKit Go.Sort

theorem grid_walk (A : Option Addr) (n c : Nat) (ts : List Tx) (s : Nat → Int) (a b : Int) (w : World) (R : RdI w w.heap.size A n ts) (hn : n ≤ 9223372036854775807) :
    Calls Try.prog 6 #[.agg #[.slice A n c], .agg (smps s), .agg #[.int .i64 a, .int .i64 b]] w fun e w' => e = .returned (.bool true) ∧ Below w.heap.size w w' := by
  by_cases h0 : n = 0
  · exact grid_zero A n c ts s a b w R hn h0
  · have hp : 0 < n := by omega
    by_cases h1 : (lvl ts 0).w = 1
    · exact grid_1 A n c ts s a b w R hn hp h1
    · by_cases h2 : (lvl ts 0).w = 2
      · exact grid_2 A n c ts s a b w R hn hp h2
      · by_cases h4 : (lvl ts 0).w = 4
        · exact grid_4 A n c ts s a b w R hn hp h4
        · by_cases h8 : (lvl ts 0).w = 8
          · exact grid_8 A n c ts s a b w R hn hp h8
          · exact grid_no A n c ts s a b w R hn hp _ rfl h1 h2 h4 h8

end Go.Proofs.Ytoipmldbjciinaa
