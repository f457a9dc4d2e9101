/- What the reference's AppendAttribute returns, of all formats. -/
import Derived.Test.YtfiblgbglccmhaaB5u
import Derived.Test.YtfiblgbglccmhaaB5h
import Derived.Test.YtfiblgbglccmhaaB5i
import Derived.Test.YtfiblgbglccmhaaB5f
namespace Go.Proofs.Ytfiblgbglccmhaa
open Go.RowKit Go.Sort Go.ChangeShapes Go.WideShapes

set_option maxRecDepth 100000 in
theorem rappend_none (A A2 : Option Addr) (n c n2 c2 : Nat) (l vs : List Int) (f : Int) (w : World) (R : Rd w w.heap.size .u8 A n l) (hn : n ≤ 140737488351232) (hf : cps f = 0) :
    Calls Try.prog 26 #[.slice A n c, .int .i64 f, .slice A2 n2 c2] w (GivesOwn w w.heap.size 5 .u8 (l ++ bts f vs (cps f))) := by
  have cc := fun W => rcps_q f W
  rw [hf] at cc ⊢
  have CC := Lib.hid cc
  have own0 := Own.made w 5 .u8
  have B0 : Below w.heap.size w (w.alloc (.cells #[] 5)) := (Below.refl _ _).alloc (Nat.le_refl _) _
  have KR := Lib.hid R
  clear cc R hf
  go_enter Try.func26, Try.ntmps26
  go_wp2_with (at_builtin; refine wpList_app _ rfl _ _ _ rfl eB own0 rfl (KR.out.below B0) rfl (by simp only [maxLen]; omega) (by omega) ?_; intro A1 n1 c1 W1 own1 B1)
  replace B1 := B0.trans B1
  clear own0 B0
  rw [List.nil_append] at own1
  go_loopw [7, 8] (fun t i wr => i = .int .i64 0 ∧ t = .slice A1 n1 c1 ∧ Own wr w.heap.size 5 .u8 A1 n1 c1 l ∧ Below w.heap.size w wr) (fun _ i _ => 0)
  case atStart => exact ⟨rfl, rfl, own1, B1⟩
  case round =>
    clear own1 B1
    obtain ⟨rfl, rfl, own, BR⟩ := hrel
    go_wp2_with (go_at_call 17; (with_reducible refine (CC.out _).mono ?_); rintro _ _ ⟨rfl, rfl⟩)
    go_ret
    exact ⟨A1, n1, c1, rfl, by rw [show bts f vs 0 = [] from rfl, List.append_nil]; exact own, BR⟩

theorem rappend_b (A A2 : Option Addr) (n c n2 c2 : Nat) (l vs : List Int) (f : Int) (w : World) (R : Rd w w.heap.size .u8 A n l) (R2 : Rd w w.heap.size .i64 A2 n2 vs) (hn : n ≤ 140737488351232) (hn2 : n2 ≤ 9223372036854775807) :
    Calls Try.prog 26 #[.slice A n c, .int .i64 f, .slice A2 n2 c2] w (GivesRd w .u8 (l ++ bts f vs (cps f))) := by
  have key : Calls Try.prog 26 #[.slice A n c, .int .i64 f, .slice A2 n2 c2] w (GivesOwn w w.heap.size 5 .u8 (l ++ bts f vs (cps f))) := by
    rcases Nat.eq_zero_or_pos (cps f) with h | h
    · exact rappend_none A A2 n c n2 c2 l vs f w R hn h
    · have hf := cps_pos.1 h
      rcases (show (f = 1 ∨ f = 2 ∨ f = 3 ∨ f = 4) ∨ f = 5 ∨ (f = 6 ∨ f = 7) ∨ f = 8 by omega) with g | g | g | g
      · exact rappend_fix A A2 n c n2 c2 l vs f w R R2 hn hn2 g
      · exact rappend_unorm A A2 n c n2 c2 l vs f w R R2 hn hn2 g
      · exact rappend_half A A2 n c n2 c2 l vs f w R R2 hn hn2 g
      · exact rappend_int1 A A2 n c n2 c2 l vs f w R R2 hn hn2 g
  exact key.mono fun _ _ h => h.rd

end Go.Proofs.Ytfiblgbglccmhaa
