/- The walks of FormatShortest and FormatRoundTrip. -/
import Derived.Test.YthancgnmbmempaaDoorF18
namespace Go.Proofs.YthancgnmbmempaaDoor
open Go.RowKit Go.Sort

theorem parseFixed_e (s : ByteArray) (w : World) (LL : Lay6 w) (hs : s.size ≤ 2000) :
    Calls Tryd.prog 13 #[.string s] w fun e w' => e = .returned (.tuple #[.int .i64 (pfix (strL s)).1, .int .i64 (pfix (strL s)).2]) ∧ Below w.heap.size w w' := parseFixed_b s _ _ w LL hs rfl

theorem minus_str (s : ByteArray) : strL (⟨#[45]⟩ ++ s) = 45 :: strL s := by rw [strL_append]; rfl

set_option maxRecDepth 100000 in
set_option maxHeartbeats 4000000 in
theorem shortest_walk (x : Int) (w : World) (LL : Lay6 w) (h0 : -9223372036854775808 ≤ x) (h1 : x ≤ 9223372036854775807) :
    Calls Tryd.prog 9 #[.int .i64 x] w fun e w' => e = .returned (.bool true) ∧ Below w.heap.size w w' := by
  have BB : Below w.heap.size w w := Below.refl _ _
  by_cases hx : x < -536870911 ∨ 536870911 < x
  · have hz : strL ⟨#[]⟩ = ffix x := by unfold ffix; rw [if_pos hx]; rfl
    have HZ := Lib.hid hz
    clear hz
    rcases hx with hx | hx
    · go_enter Tryd.func9, Tryd.ntmps9
      go_wp2_with (first
        | (go_at_call 10; (with_reducible refine (example_b _ LL).mono ?_); rintro _ _ ⟨rfl, B⟩; replace LL := LL.on B; replace BB := bon BB B; clear B)
        | (go_at_call 14; (with_reducible refine (formatFixed_b _ _ _ LL h0 h1 HZ.out).mono ?_); rintro _ _ ⟨rfl, B⟩; replace LL := LL.on B; replace BB := bon BB B; clear B))
      go_ret
      exact ⟨rfl, BB⟩
    · have hx2 : (-536870911 : Int) ≤ x := by omega
      go_enter Tryd.func9, Tryd.ntmps9
      go_wp2_with (first
        | (go_at_call 10; (with_reducible refine (example_b _ LL).mono ?_); rintro _ _ ⟨rfl, B⟩; replace LL := LL.on B; replace BB := bon BB B; clear B)
        | (go_at_call 14; (with_reducible refine (formatFixed_b _ _ _ LL h0 h1 HZ.out).mono ?_); rintro _ _ ⟨rfl, B⟩; replace LL := LL.on B; replace BB := bon BB B; clear B))
      go_ret
      exact ⟨rfl, BB⟩
  · obtain ⟨s, hs, s30, s3⟩ := ffix_str x
    replace s3 := s3 hx
    have x0 : (-536870911 : Int) ≤ x := by omega
    have x1 : x ≤ 536870911 := by omega
    clear hx
    obtain ⟨v, er, hp⟩ : ∃ v er, pfix (strL (s.extract 0 (s.size - 1))) = (v, er) := ⟨_, _, rfl⟩
    have hbyte := (s[s.size - 2]'(by omega)).toNat_lt
    have hc : ((s[s.size - 2]'(by omega)).toNat : Int) = 46 ∨ (¬ ((s[s.size - 2]'(by omega)).toNat : Int) = 46 ∧ ¬ er = 0) ∨ (¬ ((s[s.size - 2]'(by omega)).toNat : Int) = 46 ∧ er = 0 ∧ ¬ v = x) := by
      by_cases c1 : ((s[s.size - 2]'(by omega)).toNat : Int) = 46
      · exact .inl c1
      · by_cases c2 : er = 0
        · refine .inr (.inr ⟨c1, c2, fun c3 => ?_⟩)
          subst c2
          subst c3
          rw [init_str, hs] at hp
          refine short_no x0 x1 ?_ hp
          rw [← hs, strL_len, strL_at s _ (by omega)]
          simpa using c1
        · exact .inr (.inl ⟨c1, c2⟩)
    obtain ⟨v2, er2, hp2⟩ : ∃ v2 er2, pfix (strL (⟨#[45]⟩ ++ s)) = (v2, er2) := ⟨_, _, rfl⟩
    have hd : (x ≤ 0 ∧ v2 = 0 ∧ er2 = 3) ∨ (0 < x ∧ v2 = -x ∧ er2 = 0) := by
      rw [minus_str, hs] at hp2
      by_cases hx0 : x ≤ 0
      · rw [pfix_twice x0 hx0] at hp2
        simp only [Prod.mk.injEq] at hp2
        exact .inl ⟨hx0, hp2.1.symm, hp2.2.symm⟩
      · rw [pfix_minus (by omega) x1] at hp2
        simp only [Prod.mk.injEq] at hp2
        exact .inr ⟨by omega, hp2.1.symm, hp2.2.symm⟩
    have z2 : (s.extract 0 (s.size - 1)).size ≤ 2000 := by rw [ByteArray.size_extract]; omega
    have z3 : (⟨#[45]⟩ ++ s).size ≤ 2000 := by rw [ByteArray.size_append]; show 1 + s.size ≤ 2000; omega
    have C2 := Lib.hid hp
    have C3 := Lib.hid hp2
    have Z2 := Lib.hid z2
    have Z3 := Lib.hid z3
    have HZ := Lib.hid hs
    have hsz1 : (⟨#[45]⟩ : ByteArray).size = 1 := rfl
    clear hs hp hp2 z2 z3
    rcases hc with hb | ⟨hb, he⟩ | ⟨hb, rfl, hv⟩
    all_goals
      try have hvb : (v == x) = false := by simpa using hv
    all_goals
      rcases hd with ⟨hx, rfl, rfl⟩ | ⟨hx, rfl, rfl⟩
    all_goals
      go_enter Tryd.func9, Tryd.ntmps9
      go_wp2_with (first
        | (go_at_call 10; (with_reducible refine (example_b _ LL).mono ?_); rintro _ _ ⟨rfl, B⟩; replace LL := LL.on B; replace BB := bon BB B; clear B)
        | (go_at_call 14; (with_reducible refine (formatFixed_b _ _ _ LL h0 h1 HZ.out).mono ?_); rintro _ _ ⟨rfl, B⟩; replace LL := LL.on B; replace BB := bon BB B; clear B)
        | (go_at_call 13; (with_reducible refine (parseFixed_e _ _ LL (by have := Z2.out; have := Z3.out; omega)).mono ?_); rintro _ _ ⟨rfl, B⟩; (first | rw [C2.out] | rw [C3.out]); replace LL := LL.on B; replace BB := bon BB B; clear B))
      go_ret
      exact ⟨rfl, BB⟩

end Go.Proofs.YthancgnmbmempaaDoor
