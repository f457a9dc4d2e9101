/- The walk of MipmapReduce: its cases together. -/
import Derived.Test.YtcjlgfadjedgbaaL14a
import Derived.Test.YtcjlgfadjedgbaaL14b
namespace Go.Proofs.Ytcjlgfadjedgbaa
open Go.RowKit Go.Sort

theorem reduce_walk (f wd ht : Int) (A : Option Addr) (n c : Nat) (l : List Int) (w : World) (R : Rd w w.heap.size .u8 A n l) (hc : n ≤ c) :
    Calls Try.prog 5 #[.agg #[.int .i64 f, .int .i64 wd, .int .i64 ht, .slice A n c]] w fun e w' => e = .returned (.bool true) ∧ Below w.heap.size w w' := by
  by_cases h : n ≤ 2000 ∧ (Im.mk f wd ht l).ok
  · obtain ⟨hn, hok⟩ := h
    by_cases h1 : wd = 1
    · by_cases h2 : ht = 1
      · subst h1 h2
        exact reduce_one f A n c l w R hc hn hok
      · exact reduce_mainb f wd ht A n c l w R hc hn hok h1 h2
    · exact reduce_maina f wd ht A n c l w R hc hn hok h1
  · exact reduce_no f wd ht A n c l w R h

end Go.Proofs.Ytcjlgfadjedgbaa
