/- The walk of FormatRoundTrip. -/
import Derived.Test.YthancgnmbmempaaDoorF18
namespace Go.Proofs.YthancgnmbmempaaDoor
open Go.RowKit Go.Sort

theorem flds_room (L : List Int) : (flds L).1.length ≤ L.length + 1 := by
  have := (sp_room 32 L []).1
  unfold flds
  split
  · simp
  · split
    · exact this
    · simp

theorem map_strL {l : List ByteArray} {T : List (List Int)} (h : l.map strL = T) : l.length = T.length := by rw [← h, List.length_map]

theorem m_room {l : List ByteArray} {P : List (List Int)} {m k : Nat} (h1 : l.length = m) (h2 : l.map strL = P) (h3 : P.length ≤ k + 1) (h4 : k ≤ 2000) : m ≤ 9223372036854775807 := by
  have := map_strL h2
  omega

theorem m_room2 {l : List ByteArray} {P : List (List Int)} {m k : Nat} (h1 : l.length = m) (h2 : l.map strL = P) (h3 : P.length ≤ k + 1) (h4 : k ≤ 2000) : m ≤ 140737488355328 := by
  have := map_strL h2
  omega

set_option maxRecDepth 100000 in
set_option maxHeartbeats 8000000 in
theorem roundTrip_walk (n x : Int) (s : ByteArray) (w : World) (LL : Lay6 w) (n0 : -9223372036854775808 ≤ n) (n1 : n ≤ 9223372036854775807) (h0 : -9223372036854775808 ≤ x) (h1 : x ≤ 9223372036854775807) (hs : s.size ≤ 9223372036854775807) :
    Calls Tryd.prog 3 #[.int .i64 n, .int .i64 x, .string s] w fun e w' => e = .returned (.bool true) ∧ Below w.heap.size w w' := by
  have BB : Below w.heap.size w w := Below.refl _ _
  by_cases hbig : 2000 < s.size
  · go_enter Tryd.func3, Tryd.ntmps3
    go_wp2_with (go_at_call 10; (with_reducible refine (example_b _ LL).mono ?_); rintro _ _ ⟨rfl, B⟩; replace LL := LL.on B; replace BB := bon BB B; clear B)
    go_ret
    exact ⟨rfl, BB⟩
  · have hn : n < -4611686018427387904 ∨ (-4611686018427387904 ≤ n ∧ 4611686018427387904 < n) ∨ (-4611686018427387904 ≤ n ∧ n ≤ 4611686018427387904) := by omega
    have hx : x < -536870911 ∨ (-536870911 ≤ x ∧ 536870911 < x) ∨ (-536870911 ≤ x ∧ x ≤ 536870911) := by omega
    have c1 : -4611686018427387904 ≤ n → n ≤ 4611686018427387904 → pint (strL (strOfNums (fint n))) = (n, 0) := fun a b => by rw [strL_of (fint_rng n)]; exact pint_fint a b
    have z1 := dg_lt20 n0 n1
    have c2 := fun W L => formatInt_b n W L n0 n1
    obtain ⟨z, hz⟩ : ∃ z, strOfNums (fint n) = z := ⟨_, rfl⟩
    rw [hz] at c1 z1 c2
    obtain ⟨y, hy, y30, _⟩ := ffix_str x
    have c3 : -536870911 ≤ x → x ≤ 536870911 → pfix (strL y) = (x, 0) := fun a b => by rw [hy]; exact pfix_ffix a b
    obtain ⟨T, hT⟩ : ∃ T, flds (strL s) = T := ⟨_, rfl⟩
    have hroom := flds_room (strL s)
    have hj := fun l => @fields_join (strL s) l
    rw [hT] at hroom hj
    rw [strL_len] at hroom
    have c4 := fun W L => fields_b s W L (by omega)
    rw [hT] at c4
    obtain ⟨P, er⟩ := T
    simp only at hroom hj
    have he : er = 0 ∨ ¬ er = 0 := by omega
    have C1 := Lib.hid c1
    have C2 := Lib.hid c2
    have C3 := Lib.hid c3
    have C4 := Lib.hid c4
    have HY := Lib.hid hy
    have HJ := Lib.hid hj
    have HR := Lib.hid hroom
    clear c1 c2 c3 c4 hz hy hT hj hroom
    rcases hn with hn | ⟨hn, hn2⟩ | ⟨hn, hn2⟩
    all_goals
      rcases hx with hx | ⟨hx, hx2⟩ | ⟨hx, hx2⟩
    all_goals
      rcases he with rfl | he
    all_goals
      go_enter Tryd.func3, Tryd.ntmps3
      go_wp2_with (first
        | (go_at_call 10; (with_reducible refine (example_b _ LL).mono ?_); rintro _ _ ⟨rfl, B⟩; replace LL := LL.on B; replace BB := bon BB B; clear B)
        | (go_at_call 12; (with_reducible refine (C2.out _ LL).mono ?_); rintro _ _ ⟨rfl, B⟩; replace LL := LL.on B; replace BB := bon BB B; clear B)
        | (go_at_call 11; (with_reducible refine (parseInt_b _ _ _ _ LL (by omega) (C1.out (by omega) (by omega))).mono ?_); rintro _ _ ⟨rfl, B⟩; replace LL := LL.on B; replace BB := bon BB B; clear B)
        | (go_at_call 14; (with_reducible refine (formatFixed_b _ _ _ LL h0 h1 HY.out).mono ?_); rintro _ _ ⟨rfl, B⟩; replace LL := LL.on B; replace BB := bon BB B; clear B)
        | (go_at_call 13; (with_reducible refine (parseFixed_b _ _ _ _ LL (by omega) (C3.out (by omega) (by omega))).mono ?_); rintro _ _ ⟨rfl, B⟩; replace LL := LL.on B; replace BB := bon BB B; clear B)
        | (go_at_call 15; (with_reducible refine (C4.out _ LL).mono ?_); rintro _ W1 ⟨A, m, c, l, rfl, R, hmc, hl, B⟩; have RR := Lib.hid R; have HL := Lib.hid hl; have HM := Lib.hid R.len; clear R hl; replace LL := LL.on B; replace BB := bon BB B; clear B)
        | (go_at_call 16; (with_reducible refine (joinFields_b _ _ _ _ s _ RR.out hmc (m_room2 HM.out HL.out HR.out (by omega)) (by omega) (HJ.out _ HL.out (by trivial)).symm).mono ?_); rintro _ _ ⟨rfl, B⟩; replace LL := LL.on B; replace BB := bon BB B; clear B))
      go_ret
      exact ⟨rfl, BB⟩

end Go.Proofs.YthancgnmbmempaaDoor
