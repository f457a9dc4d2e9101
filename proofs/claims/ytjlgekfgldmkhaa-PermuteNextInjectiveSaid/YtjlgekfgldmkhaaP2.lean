/- What Below returns, of both; count, IsPermutation, Same of the reference. -/
import Derived.Test.YtjlgekfgldmkhaaP1
import Derived.Test.YtjlgekfgldmkhaaBytes
import Derived.Deep.QuietTactic
import Derived.BigQuiet
import Derived.WalkSpells
namespace Go.Proofs.Ytjlgekfgldmkhaa
open Go.RowKit Go.Sort

/-- Below's number and state. -/
def blw (s : Nat) (n : Int) : Int × Nat := if n < 1 then (0, s) else ((mixN (nxt s) % n.toNat : Nat), nxt s)

def BelowGives (s : Nat) (n : Int) (w : World) (e : Ending) (w' : World) : Prop := e = .returned (.tuple #[.int .i64 (blw s n).1, .int .u64 (blw s n).2]) ∧ w = w'

theorem blw_steps (s : Nat) (n : Int) (h1 : 1 ≤ n) (h2 : n ≤ 9223372036854775807) : ∃ (a z k : Nat), mixN (nxt s) = z ∧ nxt s = a ∧ blw s n = ((k : Int), a) ∧ IntKind.u64.wrap n = n ∧ (z : Int).tmod n = (k : Int) ∧ IntKind.u64.wrap (k : Int) = (k : Int) ∧ IntKind.i64.wrap (k : Int) = (k : Int) := by
  refine ⟨nxt s, mixN (nxt s), mixN (nxt s) % n.toNat, rfl, rfl, by unfold blw; rw [if_neg (by omega)], ?_, ?_, ?_, ?_⟩
  · rw [IntKind.wrap_u64]; omega
  · rw [Int.tmod_eq_emod_of_nonneg (by omega), Int.natCast_emod, Int.toNat_of_nonneg (by omega)]
  · have h := Nat.mod_lt (mixN (nxt s)) (show 0 < n.toNat by omega)
    rw [IntKind.wrap_u64]
    omega
  · have h := Nat.mod_lt (mixN (nxt s)) (show 0 < n.toNat by omega)
    rw [IntKind.wrap_i64]
    omega

set_option maxRecDepth 100000 in
theorem rbelow_q (s : Nat) (n : Int) (w : World) (h2 : n ≤ 9223372036854775807) : Calls Try.prog 13 #[.int .u64 s, .int .i64 n] w (BelowGives s n w) := by
  by_cases h1 : n < 1
  · have e : Hid (blw s n = (0, s)) := Lib.hid (by unfold blw; rw [if_pos h1])
    go_enter Try.func13, Try.ntmps13
    go_wp2
    go_ret2
    exact ⟨by rw [e.out]; rfl, rfl⟩
  · obtain ⟨a, z, k, hz, ha, hb, q1, q2, q3, q4⟩ := blw_steps s n (by omega) h2
    have c := fun W => rnext_q s W
    unfold NextGives at c
    rw [hz, ha] at c
    have C := Lib.hid c
    have HB := Lib.hid hb
    have h1' : 1 ≤ n := by omega
    clear hz ha hb c h1
    go_enter Try.func13, Try.ntmps13
    go_wp2_with (go_at_call 11; refine (C.out _).mono ?_; rintro _ _ ⟨rfl, rfl⟩)
    go_ret2
    exact ⟨by rw [HB.out]; rfl, rfl⟩

set_option maxRecDepth 100000 in
theorem below_q (s : Nat) (n : Int) (w : World) (h2 : n ≤ 9223372036854775807) : Calls Try.prog 12 #[.int .u64 s, .int .i64 n] w (BelowGives s n w) := by
  by_cases h1 : n < 1
  · have e : Hid (blw s n = (0, s)) := Lib.hid (by unfold blw; rw [if_pos h1])
    go_enter Try.func12, Try.ntmps12
    go_wp2
    go_ret2
    exact ⟨by rw [e.out]; rfl, rfl⟩
  · obtain ⟨a, z, k, hz, ha, hb, q1, q2, q3, q4⟩ := blw_steps s n (by omega) h2
    have c := fun W => next_q s W
    unfold NextGives at c
    rw [hz, ha] at c
    have C := Lib.hid c
    have HB := Lib.hid hb
    have h1' : 1 ≤ n := by omega
    clear hz ha hb c h1
    go_enter Try.func12, Try.ntmps12
    go_wp2_with (go_at_call 10; refine (C.out _).mono ?_; rintro _ _ ⟨rfl, rfl⟩)
    go_ret2
    exact ⟨by rw [HB.out]; rfl, rfl⟩

theorem icut {α : Type} {l : List α} {k : Nat} {x : α} (h : l[k]? = some x) : l.drop k = x :: l.drop (k + 1) := by
  obtain ⟨hk, rfl⟩ := List.getElem?_eq_some_iff.1 h
  exact List.drop_eq_getElem_cons hk

set_option maxRecDepth 100000 in
theorem rcount_q (A : Option Addr) (n c : Nat) (l : List Int) (x : Int) (w : World) (R : Rd w w.heap.size .i64 A n l) (hn : n ≤ 4611686018427387904) :
    Calls Try.prog 26 #[.slice A n c, .int .i64 x] w fun e w' => e = .returned (.int .i64 (l.count x : Nat)) ∧ w = w' := by
  have HL := Lib.hid R.len
  go_enter Try.func26, Try.ntmps26
  go_wp2
  go_loop [5, 6] (fun t i => ∃ (k m : Nat), k ≤ n ∧ m ≤ k ∧ i = .int .i64 k ∧ t = .int .i64 m ∧ m + (l.drop k).count x = l.count x) (fun _ i => n - (intOf i).toNat)
  case atStart => exact ⟨0, 0, by omega, by omega, rfl, rfl, by simp⟩
  case round =>
    obtain ⟨k, m, hk, hm, rfl, rfl, hh⟩ := hrel
    by_cases hlt : k < n
    · obtain ⟨b, off, y, rfl, cy, y0, y1, hy⟩ := R.int hlt
      rw [icut hy.out, List.count_cons] at hh
      by_cases he : y = x
      · subst he
        have H2 : Hid (m + 1 + (l.drop (k + 1)).count y = l.count y) := Lib.hid (by simp at hh; omega)
        have hq : (y == y) = true := by simp
        clear hh R
        go_wp2
        go_round
        case rel => exact ⟨k + 1, m + 1, by omega, by omega, by go_num, by go_num, H2.out⟩
        case measure => simp [intOf]; omega
      · have hq : (y == x) = false := by simpa using he
        rw [hq] at hh
        have H2 : Hid (m + (l.drop (k + 1)).count x = l.count x) := Lib.hid (by simp at hh; omega)
        clear hh R he
        go_wp2
        go_round
        case rel => exact ⟨k + 1, m, by omega, by omega, by go_num, rfl, H2.out⟩
        case measure => simp [intOf]; omega
    · obtain rfl : k = n := by omega
      have hf : Hid (m = l.count x) := Lib.hid (by rw [← hh, List.drop_eq_nil_of_le (by rw [HL.out]; exact Nat.le_refl _)]; simp)
      clear R hh
      go_wp2
      go_ret
      exact ⟨congrArg (fun q : Nat => Ending.returned (.int .i64 q)) hf.out, rfl⟩

/-- Is the list a permutation? -/
noncomputable def isPB (l : List Int) : Bool := @decide (IsP l) (Classical.propDecidable _)
theorem isPB_yes {l : List Int} (h : IsP l) : isPB l = true := by unfold isPB; simpa using h
theorem isPB_no {l : List Int} (h : ¬ IsP l) : isPB l = false := by unfold isPB; simpa using h

set_option maxRecDepth 100000 in
theorem risPermutation_q (A : Option Addr) (n c : Nat) (l : List Int) (w : World) (R : Rd w w.heap.size .i64 A n l) (hn : n ≤ 4611686018427387904) :
    Calls Try.prog 21 #[.slice A n c] w fun e w' => e = .returned (.bool (isPB l)) ∧ w = w' := by
  have HL := Lib.hid R.len
  have RR := Lib.hid R
  obtain ⟨b, hb⟩ : ∃ b, isPB l = b := ⟨_, rfl⟩
  rw [hb]
  have HB := Lib.hid hb
  clear hb R
  go_enter Try.func21, Try.ntmps21
  go_wp2
  go_loop [3] (fun i => ∃ k : Nat, k ≤ n ∧ i = .int .i64 k ∧ ∀ x : Nat, x < k → (x : Int) ∈ l) (fun i => n - (intOf i).toNat)
  case atStart => exact ⟨0, by omega, rfl, fun x h => absurd h (by omega)⟩
  case round =>
    obtain ⟨k, hk, rfl, hall⟩ := hrel
    have HA := Lib.hid hall
    clear hall
    by_cases hlt : k < n
    · have c1 := fun W R => rcount_q A n c l (k : Int) W R hn
      by_cases h1 : l.count (k : Int) = 1
      · have H2 : Hid (∀ x : Nat, x < k + 1 → (x : Int) ∈ l) := Lib.hid (fun x hx => by
          rcases Nat.lt_or_ge x k with h | h
          · exact HA.out x h
          · obtain rfl : x = k := by omega
            exact List.count_pos_iff.1 (by omega))
        rw [h1] at c1
        have C1 := Lib.hid c1
        clear c1 h1
        go_wp2_with (go_at_call 26; refine (C1.out _ RR.out).mono ?_; rintro _ _ ⟨rfl, rfl⟩)
        go_round
        case rel => exact ⟨k + 1, by omega, by go_num, H2.out⟩
        case measure => simp [intOf]; omega
      · have hno : b = false := by
          rw [← HB.out]
          exact isPB_no fun h => h1 (h.count (by rw [HL.out]; exact hlt))
        subst hno
        have hq : (((l.count (k : Int) : Nat) : Int) != 1) = true := by simp; omega
        obtain ⟨q, hqq⟩ : ∃ q : Nat, l.count (k : Int) = q := ⟨_, rfl⟩
        rw [hqq] at c1 hq
        have C1 := Lib.hid c1
        clear c1 h1 hqq
        go_wp2_with (go_at_call 26; refine (C1.out _ RR.out).mono ?_; rintro _ _ ⟨rfl, rfl⟩)
        go_ret
        exact ⟨rfl, rfl⟩
    · obtain rfl : k = n := by omega
      have hyes : b = true := by
        rw [← HB.out]
        exact isPB_yes (isP_of_all (by rw [HL.out]; exact HA.out))
      subst hyes
      go_wp2
      go_ret
      exact ⟨rfl, rfl⟩

theorem hid_some {l : List Int} {j : Nat} {x y : Int} (hx : Hid (l[j]? = some x)) (hy : Hid (l[j]? = some y)) : y = x := by
  have h := hx.out.symm.trans hy.out
  injection h with h
  exact h.symm

theorem rsame_b (A A2 : Option Addr) (n n2 c c2 B1 B2 : Nat) (l : List Int) (w : World) (R1 : Rd w B1 .i64 A n l) (R2 : Rd w B2 .i64 A2 n2 l) (h1 : B1 ≤ w.heap.size) (h2 : B2 ≤ w.heap.size) (hn : n ≤ 9223372036854775807) :
    Calls Try.prog 16 #[.slice A n c, .slice A2 n2 c2] w fun e w' => e = .returned (.bool true) ∧ Below w.heap.size w w' := by
  obtain rfl : n2 = n := by rw [← R1.len, ← R2.len]
  go_enter Try.func16, Try.ntmps16
  go_wp2
  go_loopw [5] (fun i wr => ∃ k : Nat, k ≤ n2 ∧ i = .int .i64 k ∧ Below w.heap.size w wr) (fun i _ => n2 - (intOf i).toNat)
  case atStart => exact ⟨0, Nat.zero_le _, rfl, Below.refl _ _⟩
  case round =>
    obtain ⟨k, hk, rfl, BB⟩ := hrel
    by_cases hlt : k < n2
    · obtain ⟨b1, o1, x, rfl, c1, x0, x1, hx⟩ := (R1.below (BB.mono h1)).int hlt
      obtain ⟨b2, o2, y, rfl, c2, _, _, hy⟩ := (R2.below (BB.mono h2)).int hlt
      obtain rfl : y = x := hid_some hx hy
      clear R1 R2
      go_wp2_with fail
      have k_c1 := cell_regrown c1
      have k_c2 := cell_regrown c2
      refine wp_region_quiet_below (by kernel_rfl) (by kernel_rfl) ?_
      repeat (first | go_big_quiet_step ((first | fail)) | quiet_step ((first | fail)))
      refine wpQuiet_nil ?_
      intro W hw'
      have B := below_regrown' hw'
      clear hw' k_c1 k_c2
      replace BB := bon BB B
      replace c1 := cell_below B c1
      replace c2 := cell_below B c2
      go_wp2
      go_roundw
      case rel => exact ⟨k + 1, by omega, by go_num, BB⟩
      case measure => simp [intOf]; omega
    · obtain rfl : k = n2 := by omega
      clear R1 R2
      go_wp2
      go_ret
      exact ⟨rfl, BB⟩

end Go.Proofs.Ytjlgekfgldmkhaa
