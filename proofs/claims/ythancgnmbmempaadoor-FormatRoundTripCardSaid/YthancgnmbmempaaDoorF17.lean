/- The walks of example, FormatInts, FormatFixedPoint, FormatNames. -/
import Derived.Test.YthancgnmbmempaaDoorG11
namespace Go.Proofs.YthancgnmbmempaaDoor
open Go.RowKit Go.Sort

theorem GivesE.gives {W w' : World} {T : List (List Int) × Int} {x : Ending} (h : GivesE W T x w') : GivesF W T x w' := by
  obtain ⟨A, n, c, l, rfl, own, hl, B⟩ := h
  exact ⟨A, n, c, l, rfl, own.rd, own.room, hl, B⟩

theorem dg_lt20 {n : Int} (h0 : -9223372036854775808 ≤ n) (h1 : n ≤ 9223372036854775807) : (strOfNums (fint n)).size ≤ 21 := by
  rw [← strL_len, strL_of (fint_rng n)]
  unfold fint
  split
  · have := dg_len64 (-n).toNat (by omega); simp; omega
  · have := dg_len64 n.toNat (by omega); omega

set_option maxRecDepth 100000 in
set_option maxHeartbeats 1000000 in
theorem example_b (w : World) (LL : Lay6 w) : Calls Tryd.prog 10 #[] w fun e w' => e = .returned (.bool true) ∧ Below w.heap.size w w' := by
  have BB : Below w.heap.size w w := Below.refl _ _
  have h1 := fun W L => parseFixed_b ⟨#[49, 46, 53, 48]⟩ 98304 0 W L (by decide) (by decide)
  have h2 := fun W L => formatFixed_b 98304 ⟨#[49, 46, 53]⟩ W L (by omega) (by omega) (by rw [ex_a]; rfl)
  have h3 := fun W L => formatFixed_b 1 ⟨#[48, 46, 48, 48, 48, 48, 50]⟩ W L (by omega) (by omega) (by rw [ex_b]; rfl)
  have h4 := fun W L => formatFixed_b (-65536) ⟨#[45, 49, 46, 48]⟩ W L (by omega) (by omega) (by rw [ex_c]; rfl)
  have H1 := Lib.hid h1
  have H2 := Lib.hid h2
  have H3 := Lib.hid h3
  have H4 := Lib.hid h4
  clear h1 h2 h3 h4
  go_enter Tryd.func10, Tryd.ntmps10
  go_wp2_with (first
    | (go_at_call 13; (with_reducible refine (H1.out _ LL).mono ?_); rintro _ _ ⟨rfl, B⟩; replace LL := LL.on B; replace BB := bon BB B; clear B)
    | (go_at_call 14; (with_reducible refine (H2.out _ LL).mono ?_); rintro _ _ ⟨rfl, B⟩; replace LL := LL.on B; replace BB := bon BB B; clear B)
    | (go_at_call 14; (with_reducible refine (H3.out _ LL).mono ?_); rintro _ _ ⟨rfl, B⟩; replace LL := LL.on B; replace BB := bon BB B; clear B)
    | (go_at_call 14; (with_reducible refine (H4.out _ LL).mono ?_); rintro _ _ ⟨rfl, B⟩; replace LL := LL.on B; replace BB := bon BB B; clear B))
  go_ret
  exact ⟨rfl, BB⟩

set_option maxRecDepth 100000 in
set_option maxHeartbeats 1000000 in
theorem ints_walk (n : Int) (s : ByteArray) (w : World) (LL : Lay6 w) (h0 : -9223372036854775808 ≤ n) (h1 : n ≤ 9223372036854775807) (hs : s.size ≤ 9223372036854775807) :
    Calls Tryd.prog 4 #[.int .i64 n, .string s] w fun e w' => e = .returned (.bool true) ∧ Below w.heap.size w w' := by
  have BB : Below w.heap.size w w := Below.refl _ _
  by_cases hbig : 2000 < s.size
  · go_enter Tryd.func4, Tryd.ntmps4
    go_wp2_with (go_at_call 10; (with_reducible refine (example_b _ LL).mono ?_); rintro _ _ ⟨rfl, B⟩; replace LL := LL.on B; replace BB := bon BB B; clear B)
    go_ret
    exact ⟨rfl, BB⟩
  · obtain ⟨v, er, hp⟩ : ∃ v er, pint (strL s) = (v, er) := ⟨_, _, rfl⟩
    obtain ⟨z, hz⟩ : ∃ z, strOfNums (fint n) = z := ⟨_, rfl⟩
    have c1 := fun W L => formatInt_b n W L h0 h1
    have c2 := fun W => rformatInt_b n W h0 h1
    rw [hz] at c1 c2
    have HP := Lib.hid hp
    have C1 := Lib.hid c1
    have C2 := Lib.hid c2
    clear hz c1 c2
    by_cases he : er = 0
    · subst he
      have hv := pint_rng hp
      have hb : strOfNums (fint v) = s := str_ext (by rw [strL_of (fint_rng v), pint_back hp])
      have c3 := fun W L => formatInt_b v W L (by omega) (by omega)
      rw [hb] at c3
      have C3 := Lib.hid c3
      clear c3 hb hp
      go_enter Tryd.func4, Tryd.ntmps4
      go_wp2_with (first
        | (go_at_call 10; (with_reducible refine (example_b _ LL).mono ?_); rintro _ _ ⟨rfl, B⟩; replace LL := LL.on B; replace BB := bon BB B; clear B)
        | (go_at_call 11; (with_reducible refine (parseInt_b _ _ _ _ LL (by omega) HP.out).mono ?_); rintro _ _ ⟨rfl, B⟩; replace LL := LL.on B; replace BB := bon BB B; clear B)
        | (go_at_call 17; (with_reducible refine (rparseInt_b _ _ _ _ (by omega) HP.out).mono ?_); rintro _ _ ⟨rfl, B⟩; replace LL := LL.on B; replace BB := bon BB B; clear B)
        | (go_at_call 12; (with_reducible refine (C1.out _ LL).mono ?_); rintro _ _ ⟨rfl, B⟩; replace LL := LL.on B; replace BB := bon BB B; clear B)
        | (go_at_call 12; (with_reducible refine (C3.out _ LL).mono ?_); rintro _ _ ⟨rfl, B⟩; replace LL := LL.on B; replace BB := bon BB B; clear B)
        | (go_at_call 18; (with_reducible refine (C2.out _).mono ?_); rintro _ _ ⟨rfl, B⟩; replace LL := LL.on B; replace BB := bon BB B; clear B))
      go_ret
      exact ⟨rfl, BB⟩
    · have hne : (er != 0) = true := by simpa using he
      clear hp he
      go_enter Tryd.func4, Tryd.ntmps4
      go_wp2_with (first
        | (go_at_call 10; (with_reducible refine (example_b _ LL).mono ?_); rintro _ _ ⟨rfl, B⟩; replace LL := LL.on B; replace BB := bon BB B; clear B)
        | (go_at_call 11; (with_reducible refine (parseInt_b _ _ _ _ LL (by omega) HP.out).mono ?_); rintro _ _ ⟨rfl, B⟩; replace LL := LL.on B; replace BB := bon BB B; clear B)
        | (go_at_call 17; (with_reducible refine (rparseInt_b _ _ _ _ (by omega) HP.out).mono ?_); rintro _ _ ⟨rfl, B⟩; replace LL := LL.on B; replace BB := bon BB B; clear B)
        | (go_at_call 12; (with_reducible refine (C1.out _ LL).mono ?_); rintro _ _ ⟨rfl, B⟩; replace LL := LL.on B; replace BB := bon BB B; clear B)
        | (go_at_call 18; (with_reducible refine (C2.out _).mono ?_); rintro _ _ ⟨rfl, B⟩; replace LL := LL.on B; replace BB := bon BB B; clear B))
      go_ret
      exact ⟨rfl, BB⟩

end Go.Proofs.YthancgnmbmempaaDoor
