/- The walk of LexerTexts. -/
import Derived.Test.YtapijdimajgflaaDoorZ23
import Derived.Test.YtapijdimajgflaaDoorZ18
namespace Go.Proofs.YtapijdimajgflaaDoor
open Go.RowKit Go.Sort Go.ChangeShapes Go.WideShapes
set_option linter.unusedVariables false

theorem jn_rng : ∀ (b : Bool) (l : List ByteArray), ∀ x ∈ jn b l, (0 : Int) ≤ x ∧ x ≤ 255
  | _, [] => by intro x hx; rw [jn] at hx; cases hx
  | b, s :: l => by
    intro x hx
    rw [jn, List.append_assoc] at hx
    rcases List.mem_append.1 hx with q | q
    · cases b
      · simp at q
      · simp at q
        subst q
        decide
    · rcases List.mem_append.1 q with q | q
      · exact strL_rng s x q
      · exact jn_rng true l x q

set_option maxRecDepth 100000 in
set_option maxHeartbeats 4000000 in
theorem texts_walk (A : Option Addr) (n c : Nat) (l : List Tk) (w : World) (LL : Lay6 w) (R : RdT w w.heap.size A n l) (hn : n ≤ 1099511627776) (hz : (jn false (txs l)).length ≤ 140737488355328) :
    Calls Tryd.prog 5 #[.slice A n c] w fun e w' => e = .returned (.bool true) ∧ Below w.heap.size w w' := by
  have BB := Below.refl w.heap.size w
  obtain ⟨out, hout⟩ : ∃ out, strOfNums (jn false (txs l)) = out := ⟨_, rfl⟩
  have ho : strL out = jn false (txs l) := by rw [← hout]; exact strL_of (jn_rng false _)
  have hos : out.size ≤ 140737488355328 := by rw [← strL_len, ho]; exact hz
  have HL := Lib.hid LL
  have KR := Lib.hid R
  have CT := Lib.hid (fun W R => text_b A n c l out W R hn hos ho)
  have CR := Lib.hid (fun W R => rtext_b A n c l out W R (by omega) (by omega) ho)
  clear LL R hout ho hz
  go_enter Tryd.func5, Tryd.ntmps5
  go_wp2_with (first
    | (go_at_call 21; (refine (CT.out _ (KR.out.on BB)).mono ?_); rintro _ W1 ⟨rfl, B⟩; replace BB := bon BB B; clear B)
    | (go_at_call 22; (refine (CR.out _ (KR.out.on BB)).mono ?_); rintro _ W1 ⟨rfl, B⟩; replace BB := bon BB B; clear B)
    | (go_at_call 10; (refine (zexample_b _ (HL.out.on BB)).mono ?_); rintro _ W1 ⟨rfl, B⟩; replace BB := bon BB B; clear B))
  go_ret
  exact ⟨rfl, BB⟩

end Go.Proofs.YtapijdimajgflaaDoor
