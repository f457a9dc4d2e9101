/- What Dot of the reference returns. -/
import Derived.Test.YtcjlgfadjedgbaaVRef2
namespace Go.Proofs.Ytcjlgfadjedgbaa
open Go.RowKit Go.Sort

theorem below_drew {w W : World} (h : Below w.heap.size w W) : Below w.heap.size w W.drew := ⟨h.os, h.tape, h.output, h.size, h.block⟩

/-- From here on of the world only S is known. -/
theorem letter {P : Program} {c : Code} {Q : Exit → Act → World → Prop} {a : Act} {w : World} {S : World → Prop} (h : ∀ W, S W → c.wp P Q a W) (hs : S w) : c.wp P Q a w := h w hs

end Go.Proofs.Ytcjlgfadjedgbaa
