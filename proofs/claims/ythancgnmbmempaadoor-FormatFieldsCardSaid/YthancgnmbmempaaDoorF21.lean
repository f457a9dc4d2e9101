/- The walk of FormatFields. -/
import Derived.Test.YthancgnmbmempaaDoorF20
namespace Go.Proofs.YthancgnmbmempaaDoor
open Go.RowKit Go.Sort

theorem strL_inj : ∀ {a b : List ByteArray}, a.map strL = b.map strL → a = b
  | [], b, h => by simpa using h.symm
  | s :: r, [], h => by simp at h
  | s :: r, t :: q, h => by
    simp only [List.map_cons, List.cons.injEq] at h
    rw [str_ext h.1, strL_inj h.2]

theorem jn_rng : ∀ (b : Bool) (l : List ByteArray), ∀ y ∈ jn b l, (0 : Int) ≤ y ∧ y ≤ 255
  | _, [], y, h => by simp [jn] at h
  | b, s :: r, y, h => by
    rw [jn] at h
    rcases List.mem_append.1 h with h | h
    · rcases List.mem_append.1 h with h | h
      · split at h <;> simp at h; omega
      · exact strL_rng s y h
    · exact jn_rng true r y h

set_option maxRecDepth 100000 in
set_option maxHeartbeats 4000000 in
theorem fields_walk (s : ByteArray) (A : Option Addr) (n c : Nat) (l : List ByteArray) (w : World) (LL : Lay6 w) (R : RdS w w.heap.size A n l) (hnc : n ≤ c) (hs : s.size ≤ 9223372036854775807) (hn : n ≤ 9223372036854775807) (hj : n ≤ 200 → (jn false l).length ≤ 9223372036854775807) :
    Calls Tryd.prog 6 #[.string s, .slice A n c] w fun e w' => e = .returned (.bool true) ∧ Below w.heap.size w w' := by
  have BB : Below w.heap.size w w := Below.refl _ _
  have RR := Lib.hid R
  obtain ⟨out, ho⟩ : ∃ out, strL out = jn false l := ⟨_, strL_of (jn_rng false l)⟩
  have hos : n ≤ 200 → out.size ≤ 9223372036854775807 := by rw [← strL_len, ho]; exact hj
  have HO := Lib.hid ho
  have HOS := Lib.hid hos
  clear R ho hj hos
  by_cases hbig : 2000 < s.size
  · go_enter Tryd.func6, Tryd.ntmps6
    go_wp2_with (go_at_call 10; (with_reducible refine (example_b _ LL).mono ?_); rintro _ _ ⟨rfl, B⟩; replace LL := LL.on B; replace BB := bon BB B; clear B)
    go_ret
    exact ⟨rfl, BB⟩
  · have hcs : 200 < n ∨ (n ≤ 200 ∧ 2000 < out.size) ∨ (n ≤ 200 ∧ out.size ≤ 2000) := by omega
    obtain ⟨T, hT⟩ : ∃ T, flds (strL s) = T := ⟨_, rfl⟩
    have hroom := flds_room (strL s)
    rw [hT, strL_len] at hroom
    have c4 := fun W L => fields_b s W L (by omega)
    have c5 := fun W => (rfields_b s W (by omega)).mono fun _ _ h => GivesE.gives h
    rw [hT] at c4 c5
    obtain ⟨P, er⟩ := T
    have C4 := Lib.hid c4
    have C5 := Lib.hid c5
    have HR := Lib.hid hroom
    clear c4 c5 hT hroom
    rcases hcs with h2 | ⟨h2, h3⟩ | ⟨h2, h3⟩
    all_goals
      go_enter Tryd.func6, Tryd.ntmps6
      go_wp2_with (first
        | (go_at_call 10; (with_reducible refine (example_b _ LL).mono ?_); rintro _ _ ⟨rfl, B⟩; replace LL := LL.on B; replace BB := bon BB B; clear B)
        | (go_at_call 21; (with_reducible refine (rjoinFields_b _ _ _ _ out _ (RR.out.on BB) hn (HOS.out (by omega)) HO.out).mono ?_); rintro _ _ ⟨rfl, B⟩; replace LL := LL.on B; replace BB := bon BB B; clear B)
        | (go_at_call 16; (with_reducible refine (joinFields_b _ _ _ _ out _ (RR.out.on BB) hnc (by omega) h3 HO.out).mono ?_); rintro _ _ ⟨rfl, B⟩; replace LL := LL.on B; replace BB := bon BB B; clear B)
        | (go_at_call 15; (with_reducible refine (C4.out _ LL).mono ?_); rintro _ W1 ⟨A1, m1, c1, l1, rfl, R1, _, hl1, B⟩; have RR1 := Lib.hid R1; have HL1 := Lib.hid hl1; clear R1 hl1; replace LL := LL.on B; replace BB := bon BB B; clear B)
        | (go_at_call 22; (with_reducible refine (C5.out _).mono ?_); rintro _ W2 ⟨A2, m2, c2, l2, rfl, R2, _, hl2, B⟩; have RR2 := Lib.hid R2; have HL2 := Lib.hid hl2; have BQ := Lib.hid B; clear R2 hl2; replace LL := LL.on B; replace BB := bon BB B; clear B)
        | (go_at_call 23; (with_reducible refine (lsame_b _ _ _ _ _ _ _ _ l2 _ (strL_inj (HL1.out.trans HL2.out.symm) ▸ RR1.out.on BQ.out) RR2.out (Nat.le_refl _) (Nat.le_refl _) (m_room RR1.out.len HL1.out HR.out (by omega))).mono ?_); rintro _ _ ⟨rfl, B⟩; replace LL := LL.on B; replace BB := bon BB B; clear B))
      go_ret
      exact ⟨rfl, BB⟩

end Go.Proofs.YthancgnmbmempaaDoor
