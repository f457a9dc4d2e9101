/- What the reference's AppendAttribute returns. -/
import Derived.Test.YtfiblgbglccmhaaB5
namespace Go.Proofs.Ytfiblgbglccmhaa
open Go.RowKit Go.Sort Go.ChangeShapes Go.WideShapes

/-- The reference puts these bytes behind zeros. -/
theorem putL_end {a : List Int} {v : Int} {m : Nat} : putL (a ++ List.replicate m 0) a.length v m = a ++ lb m v := by
  have h := putL_mid (a := a) (z := List.replicate m (0 : Int)) (b := []) (v := v) (m := m) (by simp)
  simpa using h

theorem rput_at (A : Option Addr) (n c : Nat) (l : List Int) (v : Int) (w : World) (R : Rd w w.heap.size .u8 A n l) (p m : Int) (q k : Nat) (ep : p = q) (em : m = k) (hn : n ≤ 140737488355328) (m1 : 1 ≤ k) (m4 : k ≤ 4) (hp : q + k ≤ n) :
    Calls Try.prog 33 #[.slice A n c, .int .i64 p, .int .i64 m, .int .i64 v] w (GivesOwn w w.heap.size 5 .u8 (putL l q v k)) := by
  subst ep; subst em; exact rputLittle_yes A n c q k l v w R hn m1 m4 hp

end Go.Proofs.Ytfiblgbglccmhaa
