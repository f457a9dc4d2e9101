/- The walk of LexerWords. -/
import Derived.Test.YtapijdimajgflaaDoorZ18
namespace Go.Proofs.YtapijdimajgflaaDoor
open Go.RowKit Go.Sort Go.ChangeShapes Go.WideShapes
set_option linter.unusedVariables false

set_option maxRecDepth 100000 in
set_option maxHeartbeats 4000000 in
theorem words_walk (s : ByteArray) (w : World) (LL : Lay6 w) (hs : s.size ≤ 4611686018427387904) : Calls Tryd.prog 4 #[.string s] w fun e w' => e = .returned (.bool true) ∧ Below w.heap.size w w' := by
  have c1 := fun W => isKeyword_q s W
  have c2 := fun W => rIsKeyword_q s W
  have c3 := fun W => isTypeWord_q s W
  have c4 := fun W => rIsTypeWord_q s W
  have c5 := fun W => isSign_q s W
  have c6 := fun W => rIsSign_q s W
  have c7 := fun W => lines_q s W hs
  have c8 := fun W => rLines_q s W hs
  obtain ⟨a, ha⟩ : ∃ a, kwd s.toList = a := ⟨_, rfl⟩
  obtain ⟨b, hb⟩ : ∃ a, tyw s.toList = a := ⟨_, rfl⟩
  obtain ⟨c, hc⟩ : ∃ a, sgw s.toList = a := ⟨_, rfl⟩
  obtain ⟨n, hn⟩ : ∃ a, lns (strL s) = a := ⟨_, rfl⟩
  rw [ha] at c1 c2
  rw [hb] at c3 c4
  rw [hc] at c5 c6
  rw [hn] at c7 c8
  have C1 := Lib.hid c1
  have C2 := Lib.hid c2
  have C3 := Lib.hid c3
  have C4 := Lib.hid c4
  have C5 := Lib.hid c5
  have C6 := Lib.hid c6
  have C7 := Lib.hid c7
  have C8 := Lib.hid c8
  have CE := Lib.hid (zexample_b w LL)
  clear c1 c2 c3 c4 c5 c6 c7 c8 ha hb hc hn LL
  go_enter Tryd.func4, Tryd.ntmps4
  go_wp2_with (first
    | (go_at_call 13; (refine (C1.out _).mono ?_); rintro _ _ ⟨rfl, rfl⟩)
    | (go_at_call 14; (refine (C2.out _).mono ?_); rintro _ _ ⟨rfl, rfl⟩)
    | (go_at_call 15; (refine (C3.out _).mono ?_); rintro _ _ ⟨rfl, rfl⟩)
    | (go_at_call 16; (refine (C4.out _).mono ?_); rintro _ _ ⟨rfl, rfl⟩)
    | (go_at_call 17; (refine (C5.out _).mono ?_); rintro _ _ ⟨rfl, rfl⟩)
    | (go_at_call 18; (refine (C6.out _).mono ?_); rintro _ _ ⟨rfl, rfl⟩)
    | (go_at_call 19; (refine (C7.out _).mono ?_); rintro _ _ ⟨rfl, rfl⟩)
    | (go_at_call 20; (refine (C8.out _).mono ?_); rintro _ _ ⟨rfl, rfl⟩)
    | (go_at_call 10; (refine CE.out.mono ?_); rintro _ W1 ⟨rfl, B⟩; have BB := Lib.hid B; clear B))
  go_ret
  exact ⟨rfl, BB.out⟩

end Go.Proofs.YtapijdimajgflaaDoor
