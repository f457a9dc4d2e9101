/- The walks of FormatFixedPoint, FormatNames, FormatShortest. -/
import Derived.Test.YthancgnmbmempaaDoorF17
namespace Go.Proofs.YthancgnmbmempaaDoor
open Go.RowKit Go.Sort

theorem frac_room {r : Int} (r0 : 0 ≤ r) (r1 : r ≤ 65535) : 1 ≤ (frac r).length ∧ (frac r).length ≤ 5 ∧ ∀ x ∈ frac r, (48 : Int) ≤ x ∧ x ≤ 57 := by
  obtain ⟨f, _, hf, _, hz⟩ := frac_zd r0 r1
  obtain ⟨_, k1, k5⟩ := kfirst_ok r0 r1
  have hl := zd_len _ f hf
  rw [← hz] at hl
  refine ⟨by omega, by omega, fun x hx => ?_⟩
  unfold frac at hx
  exact dg_rng _ x (List.mem_of_mem_tail hx)

/-- The decimal form as a string. -/
theorem ffix_str (x : Int) : ∃ s : ByteArray, strL s = ffix x ∧ s.size ≤ 30 ∧ (¬ (x < -536870911 ∨ 536870911 < x) → 3 ≤ s.size) := by
  have hr : ∀ y ∈ ffix x, (0 : Int) ≤ y ∧ y ≤ 255 := by
    intro y hy
    unfold ffix at hy
    split at hy
    · simp at hy
    · have hf := (frac_room (r := ((x.natAbs % 65536 : Nat) : Int)) (by omega) (by omega)).2.2
      simp only [List.mem_append] at hy
      rcases hy with ((hy | hy) | hy) | hy
      · split at hy
        · simp at hy; omega
        · simp at hy
      · have := dg_rng _ y hy; omega
      · simp at hy; omega
      · have := hf y hy; omega
  refine ⟨strOfNums (ffix x), strL_of hr, ?_⟩
  rw [← strL_len, strL_of hr]
  have hf := frac_room (r := ((x.natAbs % 65536 : Nat) : Int)) (by omega) (by omega)
  have h1 := dg_pos (x.natAbs / 65536)
  obtain ⟨F, hF⟩ : ∃ F, frac ((x.natAbs % 65536 : Nat) : Int) = F := ⟨_, rfl⟩
  unfold ffix
  rw [hF] at hf ⊢
  clear hr hF
  split
  · rename_i h
    exact ⟨by simp, fun hn => absurd h hn⟩
  · have h2 := dg_len64 (x.natAbs / 65536) (by omega)
    refine ⟨?_, fun _ => ?_⟩ <;> (simp only [List.length_append, List.length_singleton]; split <;> simp <;> omega)

set_option maxRecDepth 100000 in
set_option maxHeartbeats 1000000 in
theorem point_walk (x : Int) (s : ByteArray) (w : World) (LL : Lay6 w) (h0 : -9223372036854775808 ≤ x) (h1 : x ≤ 9223372036854775807) (hs : s.size ≤ 9223372036854775807) :
    Calls Tryd.prog 5 #[.int .i64 x, .string s] w fun e w' => e = .returned (.bool true) ∧ Below w.heap.size w w' := by
  have BB : Below w.heap.size w w := Below.refl _ _
  by_cases hbig : 2000 < s.size
  · go_enter Tryd.func5, Tryd.ntmps5
    go_wp2_with (go_at_call 10; (with_reducible refine (example_b _ LL).mono ?_); rintro _ _ ⟨rfl, B⟩; replace LL := LL.on B; replace BB := bon BB B; clear B)
    go_ret
    exact ⟨rfl, BB⟩
  · obtain ⟨v, er, hp⟩ : ∃ v er, pfix (strL s) = (v, er) := ⟨_, _, rfl⟩
    obtain ⟨z, hz, _⟩ := ffix_str x
    have HP := Lib.hid hp
    have HZ := Lib.hid hz
    clear hz hp
    go_enter Tryd.func5, Tryd.ntmps5
    go_wp2_with (first
      | (go_at_call 10; (with_reducible refine (example_b _ LL).mono ?_); rintro _ _ ⟨rfl, B⟩; replace LL := LL.on B; replace BB := bon BB B; clear B)
      | (go_at_call 13; (with_reducible refine (parseFixed_b _ _ _ _ LL (by omega) HP.out).mono ?_); rintro _ _ ⟨rfl, B⟩; replace LL := LL.on B; replace BB := bon BB B; clear B)
      | (go_at_call 19; (with_reducible refine (rparseFixed_b _ _ _ _ (by omega) HP.out).mono ?_); rintro _ _ ⟨rfl, B⟩; replace LL := LL.on B; replace BB := bon BB B; clear B)
      | (go_at_call 14; (with_reducible refine (formatFixed_b _ _ _ LL h0 h1 HZ.out).mono ?_); rintro _ _ ⟨rfl, B⟩; replace LL := LL.on B; replace BB := bon BB B; clear B)
      | (go_at_call 20; (with_reducible refine (rformatFixed_b _ _ _ h0 h1 HZ.out).mono ?_); rintro _ _ ⟨rfl, B⟩; replace LL := LL.on B; replace BB := bon BB B; clear B))
    go_ret
    exact ⟨rfl, BB⟩

theorem hexs_rng : ∀ k u : Nat, ∀ y ∈ hexs k u, (0 : Int) ≤ y ∧ y ≤ 255
  | 0, _, y, h => by simp [hexs] at h
  | k + 1, u, y, h => by
    rw [hexs] at h
    rcases List.mem_append.1 h with h | h
    · exact hexs_rng k _ y h
    · have := hexd_rng (u % 16) (by omega)
      simp at h
      omega

set_option maxRecDepth 100000 in
set_option maxHeartbeats 1000000 in
theorem names_walk (s : ByteArray) (u : Nat) (w : World) (LL : Lay6 w) (hu : u < 18446744073709551616) (hs : s.size ≤ 9223372036854775807) :
    Calls Tryd.prog 8 #[.string s, .int .u64 u] w fun e w' => e = .returned (.bool true) ∧ Below w.heap.size w w' := by
  have BB : Below w.heap.size w w := Below.refl _ _
  by_cases hbig : 2000 < s.size
  · go_enter Tryd.func8, Tryd.ntmps8
    go_wp2_with (go_at_call 10; (with_reducible refine (example_b _ LL).mono ?_); rintro _ _ ⟨rfl, B⟩; replace LL := LL.on B; replace BB := bon BB B; clear B)
    go_ret
    exact ⟨rfl, BB⟩
  · obtain ⟨ds, hd⟩ : ∃ ds, strL ds = hexs 16 u := ⟨_, strL_of (x := hexs 16 u) (hexs_rng 16 u)⟩
    obtain ⟨b, hb⟩ : ∃ b, namB (strL s) = b := ⟨_, rfl⟩
    have c1 := fun W => isName_b s W (by omega)
    have c2 := fun W => risName_b s W (by omega)
    rw [hb] at c1 c2
    have C1 := Lib.hid c1
    have C2 := Lib.hid c2
    have HD := Lib.hid hd
    clear hd hb c1 c2
    go_enter Tryd.func8, Tryd.ntmps8
    go_wp2_with (first
      | (go_at_call 10; (with_reducible refine (example_b _ LL).mono ?_); rintro _ _ ⟨rfl, B⟩; replace LL := LL.on B; replace BB := bon BB B; clear B)
      | (go_at_call 26; (with_reducible refine (C1.out _).mono ?_); rintro _ _ ⟨rfl, B⟩; replace LL := LL.on B; replace BB := bon BB B; clear B)
      | (go_at_call 27; (with_reducible refine (C2.out _).mono ?_); rintro _ _ ⟨rfl, B⟩; replace LL := LL.on B; replace BB := bon BB B; clear B)
      | (go_at_call 28; (with_reducible refine (formatHash_b _ _ _ LL HD.out hu).mono ?_); rintro _ _ ⟨rfl, B⟩; replace LL := LL.on B; replace BB := bon BB B; clear B)
      | (go_at_call 29; (with_reducible refine (rformatHash_b _ _ _ HD.out hu).mono ?_); rintro _ _ ⟨rfl, B⟩; replace LL := LL.on B; replace BB := bon BB B; clear B))
    go_ret
    exact ⟨rfl, BB⟩

theorem names_walk' (s : ByteArray) (a : Int) (w : World) (LL : Lay6 w) (h : (Lit.int .u64 a).wf = true) (hs : s.size ≤ 9223372036854775807) :
    Calls Tryd.prog 8 #[.string s, .int .u64 a] w fun e w' => e = .returned (.bool true) ∧ Below w.heap.size w w' := by
  have e1 : IntKind.u64.min = 0 := rfl
  have e2 : IntKind.u64.max = 18446744073709551615 := rfl
  simp [Lit.wf, e1, e2] at h
  have c := names_walk s a.toNat w LL (by omega) hs
  rwa [show ((a.toNat : Nat) : Int) = a by omega] at c

end Go.Proofs.YthancgnmbmempaaDoor
