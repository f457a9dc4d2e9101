/- The walks of PermuteNextInjective, PermuteBelowRange, PermuteShuffles. -/
import Derived.Test.YtjlgekfgldmkhaaP9
namespace Go.Proofs.Ytjlgekfgldmkhaa
open Go.RowKit Go.Sort

theorem nxt_step (s : Nat) : IntKind.u64.wrap ((nxt s : Int) - (s : Int)) = 11400714819323198485 := by
  rw [nxt_def, IntKind.wrap_u64]
  omega

/-- What two states give. -/
theorem next_two (a b : Nat) (ha : a < 18446744073709551616) (hb : b < 18446744073709551616) (h : a ≠ b) : ((mixN (nxt a) : Int) == (mixN (nxt b) : Int)) = false := by
  have h1 : mixN (nxt a) ≠ mixN (nxt b) := fun e => h (nxt_inj ha hb (mixN_inj (nxt_lt a) (nxt_lt b) e))
  simp
  omega

set_option maxRecDepth 100000 in
theorem injective_walk (a b : Nat) (w : World) (ha : a < 18446744073709551616) (hb : b < 18446744073709551616) :
    Calls Try.prog 8 #[.int .u64 a, .int .u64 b] w fun e w' => e = .returned (.bool true) ∧ Below w.heap.size w w' := by
  have BB : Below w.heap.size w w := Below.refl _ _
  have ea := nxt_step a
  have eb := nxt_step b
  have ca := fun W => next_q a W
  have cb := fun W => next_q b W
  unfold NextGives at ca cb
  have hne : a ≠ b → ((mixN (nxt a) : Int) == (mixN (nxt b) : Int)) = false := next_two a b ha hb
  have heq : a = b → mixN (nxt a) = mixN (nxt b) := fun e => by rw [e]
  obtain ⟨x, hx⟩ : ∃ x, mixN (nxt a) = x := ⟨_, rfl⟩
  obtain ⟨y, hy⟩ : ∃ y, mixN (nxt b) = y := ⟨_, rfl⟩
  obtain ⟨s, hs⟩ : ∃ s, nxt a = s := ⟨_, rfl⟩
  obtain ⟨t, ht⟩ : ∃ t, nxt b = t := ⟨_, rfl⟩
  rw [hx, hy] at hne heq
  rw [hx, hs] at ca
  rw [hy, ht] at cb
  rw [hs] at ea
  rw [ht] at eb
  have CA := Lib.hid ca
  have CB := Lib.hid cb
  clear ca cb hx hy hs ht ha hb
  by_cases hab : a = b
  · obtain rfl := heq hab
    subst hab
    clear hne heq
    have q1 : ((x : Int) == (x : Int)) = true := by simp
    have q2 : ((a : Int) == (a : Int)) = true := by simp
    go_enter Try.func8, Try.ntmps8
    go_wp2_with (first
      | (go_at_call 10; with_reducible refine (CA.out _).mono ?_; rintro _ _ ⟨rfl, rfl⟩)
      | (go_at_call 10; refine (CB.out _).mono ?_; rintro _ _ ⟨rfl, rfl⟩)
      | (go_at_call 17; refine (example_b _).mono ?_; rintro _ W1 ⟨rfl, B⟩; replace BB := bon BB B; clear B))
    go_ret
    exact ⟨rfl, BB⟩
  · have q1 := hne hab
    have q2 : ((a : Int) == (b : Int)) = false := by simp; omega
    clear hne heq hab
    go_enter Try.func8, Try.ntmps8
    go_wp2_with (first
      | (go_at_call 10; with_reducible refine (CA.out _).mono ?_; rintro _ _ ⟨rfl, rfl⟩)
      | (go_at_call 10; with_reducible refine (CB.out _).mono ?_; rintro _ _ ⟨rfl, rfl⟩)
      | (go_at_call 17; refine (example_b _).mono ?_; rintro _ W1 ⟨rfl, B⟩; replace BB := bon BB B; clear B))
    go_ret
    exact ⟨rfl, BB⟩

/-- What BelowRange asks of the numbers. -/
theorem below_steps (s : Nat) (n : Int) (h1 : 1 ≤ n) (h2 : n ≤ 9223372036854775807) : ∃ (a z k : Nat), mixN (nxt s) = z ∧ nxt s = a ∧ blw s n = ((k : Int), a) ∧ IntKind.u64.wrap n = n ∧ IntKind.u64.wrap (k : Int) = (k : Int) ∧
    (k : Int) < n ∧ (k : Int) ≤ z ∧ IntKind.u64.wrap ((z : Int) - (k : Int)) = (z : Int) - k ∧ ((z : Int) - (k : Int)).tmod n = 0 := by
  have hz := mixN_lt (nxt s)
  refine ⟨nxt s, mixN (nxt s), mixN (nxt s) % n.toNat, rfl, rfl, by unfold blw; rw [if_neg (by omega)], ?_, ?_, ?_, ?_, ?_, ?_⟩
  · rw [IntKind.wrap_u64]; omega
  · have h := Nat.mod_lt (mixN (nxt s)) (show 0 < n.toNat by omega)
    rw [IntKind.wrap_u64]
    omega
  · have h := Nat.mod_lt (mixN (nxt s)) (show 0 < n.toNat by omega)
    omega
  · have h := Nat.mod_le (mixN (nxt s)) n.toNat
    omega
  · have h := Nat.mod_le (mixN (nxt s)) n.toNat
    rw [IntKind.wrap_u64]
    omega
  · have h := Nat.mod_le (mixN (nxt s)) n.toNat
    rw [Int.tmod_eq_emod_of_nonneg (by omega), Int.natCast_emod, Int.toNat_of_nonneg (by omega), Int.sub_emod, Int.emod_emod, Int.sub_self, Int.zero_emod]

set_option maxRecDepth 100000 in
theorem belowRange_walk (s : Nat) (n : Int) (w : World) (h2 : n ≤ 9223372036854775807) :
    Calls Try.prog 9 #[.int .u64 s, .int .i64 n] w fun e w' => e = .returned (.bool true) ∧ Below w.heap.size w w' := by
  have BB : Below w.heap.size w w := Below.refl _ _
  have cb := fun W => below_q s n W h2
  unfold BelowGives at cb
  by_cases h1 : n < 1
  · have e : blw s n = (0, s) := by unfold blw; rw [if_pos h1]
    rw [e] at cb
    have CB := Lib.hid cb
    clear cb e
    go_enter Try.func9, Try.ntmps9
    go_wp2_with (first
      | (go_at_call 12; refine (CB.out _).mono ?_; rintro _ _ ⟨rfl, rfl⟩)
      | (go_at_call 17; refine (example_b _).mono ?_; rintro _ W1 ⟨rfl, B⟩; replace BB := bon BB B; clear B))
    go_ret
    exact ⟨rfl, BB⟩
  · have h1' : 1 ≤ n := by omega
    obtain ⟨a, z, k, hz, ha, hb, q1, q2, q3, q4, q5, q6⟩ := below_steps s n h1' h2
    have cn := fun W => next_q s W
    unfold NextGives at cn
    rw [hz, ha] at cn
    rw [hb] at cb
    have CB := Lib.hid cb
    have CN := Lib.hid cn
    clear cb cn hz ha hb h1
    go_enter Try.func9, Try.ntmps9
    go_wp2_with (first
      | (go_at_call 12; refine (CB.out _).mono ?_; rintro _ _ ⟨rfl, rfl⟩)
      | (go_at_call 10; refine (CN.out _).mono ?_; rintro _ _ ⟨rfl, rfl⟩)
      | (go_at_call 17; refine (example_b _).mono ?_; rintro _ W1 ⟨rfl, B⟩; replace BB := bon BB B; clear B))
    go_ret
    exact ⟨rfl, BB⟩

set_option maxRecDepth 100000 in
theorem shuffles_walk (n : Int) (s : Nat) (w : World) (hs : s < 18446744073709551616) (h2 : n ≤ 9223372036854775807) :
    Calls Try.prog 3 #[.int .i64 n, .int .u64 s] w fun e w' => e = .returned (.bool true) ∧ Below w.heap.size w w' := by
  have BB : Below w.heap.size w w := Below.refl _ _
  have c1 := fun W => next_q s W
  have c2 := fun W => rnext_q s W
  have c3 := fun W => below_q s n W h2
  have c4 := fun W => rbelow_q s n W h2
  have c5 := fun W => perm_b n s W hs
  have c6 := fun W => rperm_b n s W hs
  unfold NextGives at c1 c2
  unfold BelowGives at c3 c4
  obtain ⟨x, hx⟩ : ∃ x, mixN (nxt s) = x := ⟨_, rfl⟩
  obtain ⟨t, ht⟩ : ∃ t, nxt s = t := ⟨_, rfl⟩
  obtain ⟨k, u, hku⟩ : ∃ k u, blw s n = (k, u) := ⟨_, _, rfl⟩
  obtain ⟨L, v, hLv⟩ : ∃ L v, prm n s = (L, v) := ⟨_, _, rfl⟩
  have hL : L.length ≤ 4096 := by
    have e : L = (prm n s).1 := by rw [hLv]
    rw [e]
    unfold prm
    split
    · rw [shuf_len]; omega
    · simp
  rw [hx, ht] at c1 c2
  rw [hku] at c3 c4
  rw [hLv] at c5 c6
  have C1 := Lib.hid c1
  have C2 := Lib.hid c2
  have C3 := Lib.hid c3
  have C4 := Lib.hid c4
  have C5 := Lib.hid c5
  have C6 := Lib.hid c6
  have HL := Lib.hid hL
  clear c1 c2 c3 c4 c5 c6 hx ht hku hLv hL
  go_enter Try.func3, Try.ntmps3
  go_wp2_with (first
    | (go_at_call 10; refine (C1.out _).mono ?_; rintro _ _ ⟨rfl, rfl⟩)
    | (go_at_call 11; refine (C2.out _).mono ?_; rintro _ _ ⟨rfl, rfl⟩)
    | (go_at_call 12; refine (C3.out _).mono ?_; rintro _ _ ⟨rfl, rfl⟩)
    | (go_at_call 13; refine (C4.out _).mono ?_; rintro _ _ ⟨rfl, rfl⟩)
    | (go_at_call 14; refine (C5.out _).mono ?_; rintro _ W1 ⟨A1, n1, d1, rfl, own1, B⟩; have R1 := own1.rd; clear own1; replace BB := bon BB B; clear B)
    | (go_at_call 15; refine (C6.out _).mono ?_; rintro _ W2 ⟨A2, n2, d2, rfl, own2, B⟩; have R2 := own2.rd; clear own2; replace R1 := R1.on B; replace BB := bon BB B; clear B)
    | (go_at_call 16; refine (rsame_b _ _ _ _ _ _ _ _ _ _ R1 R2 (Nat.le_refl _) (Nat.le_refl _) (by have := R1.len; have := HL.out; omega)).mono ?_; rintro _ W3 ⟨rfl, B⟩; replace BB := bon BB B; clear B R1 R2)
    | (go_at_call 17; refine (example_b _).mono ?_; rintro _ W4 ⟨rfl, B⟩; replace BB := bon BB B; clear B))
  go_ret
  exact ⟨rfl, BB⟩

end Go.Proofs.Ytjlgekfgldmkhaa
