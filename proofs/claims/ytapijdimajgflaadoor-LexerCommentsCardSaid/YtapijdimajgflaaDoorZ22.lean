/- The walk of LexerLexes. -/
import Derived.Test.YtapijdimajgflaaDoorZ17
import Derived.Test.YtapijdimajgflaaDoorZ21
import Derived.Test.YtapijdimajgflaaDoorZ18
namespace Go.Proofs.YtapijdimajgflaaDoor
open Go.RowKit Go.Sort Go.ChangeShapes Go.WideShapes
set_option linter.unusedVariables false

theorem lexF_len : ∀ (f n ln : Nat) (r : List Int), (lexF f n ln r).1.length ≤ f
  | 0, _, _, _ => by simp [lexF]
  | f + 1, n, ln, r => by
    have ih := fun n ln r => lexF_len f n ln r
    rw [lexF]
    simp only
    split
    · simp
    · split
      · simp
      · split
        · simp
        · split
          · simp
          · split
            · rw [List.length_cons]
              have := ih (n + 1) (ln + nls (r.take (skp false r))) ((r.drop (skp false r)).drop (tkr (r.drop (skp false r))).2.2.1)
              omega
            · simp

theorem lexv_len (l : List Int) : (lexv l).1.length ≤ l.length + 1 := by
  unfold lexv
  split
  · simp
  · exact lexF_len _ _ _ _

set_option maxRecDepth 100000 in
set_option maxHeartbeats 4000000 in
theorem lexes_walk (s : ByteArray) (w : World) (LL : Lay6 w) (hs : s.size ≤ 4611686018427387904) : Calls Tryd.prog 3 #[.string s] w fun e w' => e = .returned (.bool true) ∧ Below w.heap.size w w' := by
  have BB := Below.refl w.heap.size w
  have HL := Lib.hid LL
  by_cases hbig : 20000 < s.size
  · have hbi : (20000 : Int) < (s.size : Int) := by omega
    have c1 := fun W L => lex_b s W L (by omega)
    rw [lexv_long _ (by rw [strL_len]; omega)] at c1
    have C1 := Lib.hid c1
    clear c1 LL
    go_enter Tryd.func3, Tryd.ntmps3
    go_wp2_with (first
      | (go_at_call 9; (refine (C1.out _ (HL.out.on BB)).mono ?_); rintro _ W1 ⟨A, n, c, rfl, R, hc, B⟩; obtain rfl : 0 = n := R.len; replace BB := bon BB B; clear B R)
      | (go_at_call 10; (refine (zexample_b _ (HL.out.on BB)).mono ?_); rintro _ W1 ⟨rfl, B⟩; replace BB := bon BB B; clear B))
    go_ret
    exact ⟨rfl, BB⟩
  · have hbi : ¬ (20000 : Int) < (s.size : Int) := by omega
    have c1 := fun W L => lex_b s W L (by omega)
    have c2 := fun W => rlex_b s W (by omega)
    have hlen := lexv_len (strL s)
    rw [strL_len] at hlen
    obtain ⟨T, l1, e1, hT⟩ : ∃ T l e, lexv (strL s) = (T, l, e) := ⟨_, _, _, rfl⟩
    rw [hT] at c1 c2 hlen
    have hlen2 : T.length ≤ s.size + 1 := hlen
    clear hlen
    have C1 := Lib.hid c1
    have C2 := Lib.hid c2
    clear c1 c2 LL hT
    go_enter Tryd.func3, Tryd.ntmps3
    go_wp2_with (first
      | (go_at_call 9; (refine (C1.out _ (HL.out.on BB)).mono ?_); rintro _ W1 ⟨A, n, c, rfl, R, hc, B⟩; have R1 := Lib.hid R; have HN1 : Hid (T.length = n) := Lib.hid R.len; replace BB := bon BB B; clear B R)
      | (go_at_call 11; (refine (C2.out _).mono ?_); rintro _ W2 ⟨A2, n2, c2, rfl, R, hc2, B⟩; have R2 := Lib.hid R; have R1' := Lib.hid (R1.out.on B); replace BB := bon BB B; clear B R R1)
      | (go_at_call 12; (refine (zsame_b _ _ _ _ _ _ T _ R1'.out R2.out (by have h9 := HN1.out; omega)).mono ?_); rintro _ W3 ⟨rfl, B⟩; replace BB := bon BB B; clear B)
      | (go_at_call 10; (refine (zexample_b _ (HL.out.on BB)).mono ?_); rintro _ W1 ⟨rfl, B⟩; replace BB := bon BB B; clear B))
    go_ret
    exact ⟨rfl, BB⟩

end Go.Proofs.YtapijdimajgflaaDoor
