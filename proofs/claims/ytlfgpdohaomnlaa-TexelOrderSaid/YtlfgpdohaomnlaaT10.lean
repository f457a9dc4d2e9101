/- The walks in the words of a frame. -/
import Derived.Test.YtlfgpdohaomnlaaT9
namespace Go.Proofs.Ytlfgpdohaomnlaa
open Go.RowKit Go.ChangeShapes Go.WideShapes

theorem roundTrip_walk' (f : Int) (A : Option Addr) (n c : Nat) (l : List Int) (x0 x1 x2 x3 : Int) (w : World) (R : Rd w w.heap.size .u8 A n l) (hc : n ≤ c) (hn : n * 1 ≤ 140737488351232) :
    Calls Try.prog 3 #[.int .i64 f, .slice A n c, .agg #[.int .i64 x0, .int .i64 x1, .int .i64 x2, .int .i64 x3]] w fun e w' => e = .returned (.bool true) ∧ Below w.heap.size w w' := roundTrip_walk f A n c l x0 x1 x2 x3 w R hc (by omega)

theorem decode_walk' (f : Int) (A : Option Addr) (n c : Nat) (l : List Int) (x0 x1 x2 x3 : Int) (w : World) (R : Rd w w.heap.size .u8 A n l) (hc : n ≤ c) (hn : n * 1 ≤ 140737488351232) :
    Calls Try.prog 6 #[.int .i64 f, .slice A n c, .agg #[.int .i64 x0, .int .i64 x1, .int .i64 x2, .int .i64 x3]] w fun e w' => e = .returned (.bool true) ∧ Below w.heap.size w w' := decode_walk f A n c l x0 x1 x2 x3 w R hc (by omega)

end Go.Proofs.Ytlfgpdohaomnlaa
